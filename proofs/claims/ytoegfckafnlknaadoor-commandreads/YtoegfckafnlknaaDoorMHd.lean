import Derived.Test.YtoegfckafnlknaaDoorMHc
/- Hd -/
/- The document's Get (f18): the walk. -/
namespace Go.Proofs.YtoegfckafnlknaaDoor
open Go.ChangeShapes Go.WideShapes Go.ChangeAt Go.RowKit
set_option maxRecDepth 20000
set_option linter.unusedVariables false
set_option linter.unusedSimpArgs false
noncomputable def opr18 : Array Oper := match Tryd.f18.body with
  | some c => match regIn 14 c with
    | some o => o
    | none => #[]
  | none => #[]
theorem spell_sz (L : List Nat) : (spell L).size = L.length := by
  rw [← bl_len]
  unfold bl
  rw [spell_data]
  simp
theorem Irow.setRow {W : World} {lo g : Nat} {a : Option Addr} {n : Nat} {L : List Int} {cs : Array Value} (h : Irow W lo a n L) (hg : g < lo) : Irow (W.setRow g cs) lo a n L := h.keep (by rw [setRow_size]; exact Nat.le_refl _) (fun q h1 _ => setRow_other _ _ _ _ (by omega))
theorem rown_leO {w : World} {B B' : Nat} {a : Option Addr} {n c : Nat} {L : List Nat} (h : Own w B a n c L) (hb : B' ≤ B) : Own w B' a n c L := h.le hb
theorem zz_one : (#[.int .i64 0, .int .i64 0, .int .i64 0, .int .i64 0, .string ⟨#[]⟩, .string ⟨#[]⟩, .int .i64 0, .int .i64 0, .int .i64 0, .int .i64 0, .int .i64 0, .int .i64 0, .int .i64 0, .string ⟨#[]⟩, .int .i64 0, .slice none 0 0, .int .i64 0, .int .i64 0] : Array Value).all (·.oneCell') = true := all_oneCell_toArray (encX_one ⟨⟨0, 0, 0, 0, ⟨#[]⟩, ⟨#[]⟩, 0, 0, 0, 0, 0, 0, 0, ⟨#[]⟩, 0, [], 0, 0⟩, none, 0, 0⟩)
set_option maxHeartbeats 4000000 in
theorem getD_n {w : World} {a : Option Addr} {n c : Nat} {l : List Nat} (hS : Hid (Sln w a n l)) (hc : Hid (a = none → c = 0)) (hnc : Hid (n ≤ c)) :
    Calls Tryd.prog 18 #[.slice a n c] w fun e w' => GtD w w' l e := by
  obtain ⟨g2, Hg2⟩ : ∃ g, Hid (w.heap.size = g) := ⟨_, rfl⟩
  obtain ⟨g4, Hg4⟩ : ∃ g, Hid (w.heap.size + 1 = g) := ⟨_, rfl⟩
  obtain ⟨w1, Hw1⟩ : ∃ w1, Hid ((w.alloc (.cells #[.int .i64 0, .int .i64 0, .int .i64 0, .int .i64 0, .string ⟨#[]⟩, .string ⟨#[]⟩, .int .i64 0, .int .i64 0, .int .i64 0, .int .i64 0, .int .i64 0, .int .i64 0, .int .i64 0, .string ⟨#[]⟩, .int .i64 0, .slice none 0 0, .int .i64 0, .int .i64 0] 28)).alloc (.cells #[.slice a n c, .int .i64 0] 79) = w1) := ⟨_, rfl⟩
  have S : Hid (Gq w w1 g2 g4 a n c l 0) := by
    have b : Below w.heap.size w w1 := by rw [← Hw1.out]; exact alloc2 w _ _
    have k4 : w1.heap[g4]? = some (.cells #[.slice a n c, .int .i64 ((0 : Nat) : Int)] 79 (0, 0)) := by
      rw [← Hw1.out, ← Hg4.out]
      have h := heap_alloc_new (w.alloc (.cells #[.int .i64 0, .int .i64 0, .int .i64 0, .int .i64 0, .string ⟨#[]⟩, .string ⟨#[]⟩, .int .i64 0, .int .i64 0, .int .i64 0, .int .i64 0, .int .i64 0, .int .i64 0, .int .i64 0, .string ⟨#[]⟩, .int .i64 0, .slice none 0 0, .int .i64 0, .int .i64 0] 28)) (.cells #[.slice a n c, .int .i64 0] 79)
      rwa [show (w.alloc (.cells #[.int .i64 0, .int .i64 0, .int .i64 0, .int .i64 0, .string ⟨#[]⟩, .string ⟨#[]⟩, .int .i64 0, .int .i64 0, .int .i64 0, .int .i64 0, .int .i64 0, .int .i64 0, .int .i64 0, .string ⟨#[]⟩, .int .i64 0, .slice none 0 0, .int .i64 0, .int .i64 0] 28)).heap.size = w.heap.size + 1 by simp] at h
    refine ⟨⟨k4, hS.out.below b, hnc.out, hc.out, fun b off h1 h2 => ?_, Nat.zero_le _⟩, ?_, Hg2.out.symm, Hg4.out.symm, b⟩
    · obtain ⟨b', off', e, hb', _⟩ := hS.out.sli.2.2.resolve_left h1
      rw [h2] at e
      cases e
      have := Hg4.out
      omega
    · rw [← Hw1.out, ← Hg2.out]
      exact ((alloc1 _ _).block w.heap.size (by simp)).trans (heap_alloc_new w _)
  go_enter Tryd.func18, Tryd.ntmps18
  go_upto_region 2 with (fail)
  rw [Hw1.out, Hg4.out, Hg2.out]
  clear Hw1
  go_upto_region 3 with (go_at_call 43; refine (take_z 4 (by rfl) (show Hid (Rrf w1 g4 a n c l 0) from S.out.rrf) (by omega)).mono ?_; rintro e w2 ⟨a1, m1, c1, ok1, S1, p1, rfl, T1⟩)
  have Sn : Hid (Gq w w2 g2 g4 a n c l p1) := S.out.step T1.out.rrf T1.out.fr
  have R1 : Hid (ok1 = true → Irow w2 (w.heap.size + 2) a1 m1 (S1.map fun x : Nat => (x : Int))) := fun h => (T1.out.yes h).2.2.2.mono S.out.lo
  clear S
  have S := Sn
  clear Sn
  go_upto_region 4 with (go_at_call 44; refine (bytR_n (z := 63) (show Hid (Rrf w2 g4 a n c l p1) from S.out.rrf) (by omega)).mono ?_; rintro e w3 ⟨a2, m2, c2, e2, L2, p2, rfl, T2⟩)
  have Sn : Hid (Gq w w3 g2 g4 a n c l p2) := S.out.step T2.out.rrf T2.out.fr
  have R1n : Hid (ok1 = true → Irow w3 (w.heap.size + 2) a1 m1 (S1.map fun x : Nat => (x : Int))) := fun h => irow_wfr (R1.out h) T2.out.fr (by have := S.out.e4; omega)
  clear R1
  have R1 := R1n
  clear R1n
  have R2 : Hid (Own w3 (w.heap.size + 2) a2 m2 c2 L2) := rown_leO T2.out.own S.out.lo
  clear S
  have S := Sn
  clear Sn
  go_upto_region 5 with (go_at_call 44; refine (bytR_n (z := 200) (show Hid (Rrf w3 g4 a n c l p2) from S.out.rrf) (by omega)).mono ?_; rintro e w4 ⟨a3, m3, c3, e3, L3, p3, rfl, T3⟩)
  have Sn : Hid (Gq w w4 g2 g4 a n c l p3) := S.out.step T3.out.rrf T3.out.fr
  have R1n : Hid (ok1 = true → Irow w4 (w.heap.size + 2) a1 m1 (S1.map fun x : Nat => (x : Int))) := fun h => irow_wfr (R1.out h) T3.out.fr (by have := S.out.e4; omega)
  have R2n : Hid (Own w4 (w.heap.size + 2) a2 m2 c2 L2) := own_wfr R2.out T3.out.fr (by have := S.out.e4; omega)
  clear R1
  have R1 := R1n
  clear R1n
  clear R2
  have R2 := R2n
  clear R2n
  have R3 : Hid (Own w4 (w.heap.size + 2) a3 m3 c3 L3) := rown_leO T3.out.own S.out.lo
  clear S
  have S := Sn
  clear Sn
  go_upto_region 6 with (go_at_call 43; refine (take_z 7 (by rfl) (show Hid (Rrf w4 g4 a n c l p3) from S.out.rrf) (by omega)).mono ?_; rintro e w5 ⟨a4, m4, c4, ok4, S4, p4, rfl, T4⟩)
  have Sn : Hid (Gq w w5 g2 g4 a n c l p4) := S.out.step T4.out.rrf T4.out.fr
  have R1n : Hid (ok1 = true → Irow w5 (w.heap.size + 2) a1 m1 (S1.map fun x : Nat => (x : Int))) := fun h => irow_wfr (R1.out h) T4.out.fr (by have := S.out.e4; omega)
  have R2n : Hid (Own w5 (w.heap.size + 2) a2 m2 c2 L2) := own_wfr R2.out T4.out.fr (by have := S.out.e4; omega)
  have R3n : Hid (Own w5 (w.heap.size + 2) a3 m3 c3 L3) := own_wfr R3.out T4.out.fr (by have := S.out.e4; omega)
  clear R1
  have R1 := R1n
  clear R1n
  clear R2
  have R2 := R2n
  clear R2n
  clear R3
  have R3 := R3n
  clear R3n
  have R4 : Hid (ok4 = true → Irow w5 (w.heap.size + 2) a4 m4 (S4.map fun x : Nat => (x : Int))) := fun h => (T4.out.yes h).2.2.2.mono S.out.lo
  clear S
  have S := Sn
  clear Sn
  go_upto_region 7 with (go_at_call 44; refine (bytR_n (z := 64) (show Hid (Rrf w5 g4 a n c l p4) from S.out.rrf) (by omega)).mono ?_; rintro e w6 ⟨a5, m5, c5, e5, L5, p5, rfl, T5⟩)
  have Sn : Hid (Gq w w6 g2 g4 a n c l p5) := S.out.step T5.out.rrf T5.out.fr
  have R1n : Hid (ok1 = true → Irow w6 (w.heap.size + 2) a1 m1 (S1.map fun x : Nat => (x : Int))) := fun h => irow_wfr (R1.out h) T5.out.fr (by have := S.out.e4; omega)
  have R2n : Hid (Own w6 (w.heap.size + 2) a2 m2 c2 L2) := own_wfr R2.out T5.out.fr (by have := S.out.e4; omega)
  have R3n : Hid (Own w6 (w.heap.size + 2) a3 m3 c3 L3) := own_wfr R3.out T5.out.fr (by have := S.out.e4; omega)
  have R4n : Hid (ok4 = true → Irow w6 (w.heap.size + 2) a4 m4 (S4.map fun x : Nat => (x : Int))) := fun h => irow_wfr (R4.out h) T5.out.fr (by have := S.out.e4; omega)
  clear R1
  have R1 := R1n
  clear R1n
  clear R2
  have R2 := R2n
  clear R2n
  clear R3
  have R3 := R3n
  clear R3n
  clear R4
  have R4 := R4n
  clear R4n
  have R5 : Hid (Own w6 (w.heap.size + 2) a5 m5 c5 L5) := rown_leO T5.out.own S.out.lo
  clear S
  have S := Sn
  clear Sn
  go_upto_region 8 with (go_at_call 43; refine (take_z 2 (by rfl) (show Hid (Rrf w6 g4 a n c l p5) from S.out.rrf) (by omega)).mono ?_; rintro e w7 ⟨a6, m6, c6, ok6, S6, p6, rfl, T6⟩)
  have Sn : Hid (Gq w w7 g2 g4 a n c l p6) := S.out.step T6.out.rrf T6.out.fr
  have R1n : Hid (ok1 = true → Irow w7 (w.heap.size + 2) a1 m1 (S1.map fun x : Nat => (x : Int))) := fun h => irow_wfr (R1.out h) T6.out.fr (by have := S.out.e4; omega)
  have R2n : Hid (Own w7 (w.heap.size + 2) a2 m2 c2 L2) := own_wfr R2.out T6.out.fr (by have := S.out.e4; omega)
  have R3n : Hid (Own w7 (w.heap.size + 2) a3 m3 c3 L3) := own_wfr R3.out T6.out.fr (by have := S.out.e4; omega)
  have R4n : Hid (ok4 = true → Irow w7 (w.heap.size + 2) a4 m4 (S4.map fun x : Nat => (x : Int))) := fun h => irow_wfr (R4.out h) T6.out.fr (by have := S.out.e4; omega)
  have R5n : Hid (Own w7 (w.heap.size + 2) a5 m5 c5 L5) := own_wfr R5.out T6.out.fr (by have := S.out.e4; omega)
  clear R1
  have R1 := R1n
  clear R1n
  clear R2
  have R2 := R2n
  clear R2n
  clear R3
  have R3 := R3n
  clear R3n
  clear R4
  have R4 := R4n
  clear R4n
  clear R5
  have R5 := R5n
  clear R5n
  have R6 : Hid (ok6 = true → Irow w7 (w.heap.size + 2) a6 m6 (S6.map fun x : Nat => (x : Int))) := fun h => (T6.out.yes h).2.2.2.mono S.out.lo
  clear S
  have S := Sn
  clear Sn
  have BD : Hid ((ok1 = false ∨ ok4 = false ∨ ok6 = false ∨ e2 + e3 + e5 ≠ 0) → refG l = none) := fun h => refG_none (refC_bad (fun h => (T1.out.yes h).1) T1.out.no T2.out.cs T3.out.cs (fun h => (T4.out.yes h).1) T4.out.no T5.out.cs (fun h => (T6.out.yes h).1) T6.out.no (h))
  cases ok1
  · have NN : refG l = none := BD.out (.inl rfl)
    have K2 : Hid (w7.heap[g2]? = some (.cells #[.int .i64 0, .int .i64 0, .int .i64 0, .int .i64 0, .string ⟨#[]⟩, .string ⟨#[]⟩, .int .i64 0, .int .i64 0, .int .i64 0, .int .i64 0, .int .i64 0, .int .i64 0, .int .i64 0, .string ⟨#[]⟩, .int .i64 0, .slice none 0 0, .int .i64 0, .int .i64 0] 28 (0, 0))) := S.out.k2
    have FB : Hid (Below w.heap.size w (w7.setRow g2 #[.int .i64 0, .int .i64 0, .int .i64 0, .int .i64 0, .string ⟨#[]⟩, .string ⟨#[]⟩, .int .i64 0, .int .i64 0, .int .i64 0, .int .i64 0, .int .i64 0, .int .i64 0, .int .i64 0, .string ⟨#[]⟩, .int .i64 0, .slice none 0 0, .int .i64 0, .int .i64 0])) := below_setRow S.out.bel (by have := S.out.e2; omega) _
    go_wp2_with (refine wpList_store_row (by rfl) 28 (.tmp 2) (.tmp 79) (by rfl) g2 #[.int .i64 0, .int .i64 0, .int .i64 0, .int .i64 0, .string ⟨#[]⟩, .string ⟨#[]⟩, .int .i64 0, .int .i64 0, .int .i64 0, .int .i64 0, .int .i64 0, .int .i64 0, .int .i64 0, .string ⟨#[]⟩, .int .i64 0, .slice none 0 0, .int .i64 0, .int .i64 0] (by rfl) (by rfl) 28 _ K2.out (by kernel_rfl) (by rfl) zz_one ?_)
    refine bodyPost_ret (res15 Tryd.results18 _ _ g2 #[.int .i64 0, .int .i64 0, .int .i64 0, .int .i64 0, .string ⟨#[]⟩, .string ⟨#[]⟩, .int .i64 0, .int .i64 0, .int .i64 0, .int .i64 0, .int .i64 0, .int .i64 0, .int .i64 0, .string ⟨#[]⟩, .int .i64 0, .slice none 0 0, .int .i64 0, .int .i64 0] (.bool false) (by rfl) (by rfl) (setRow_heap _ _ _ _ _ _ K2.out) rfl) rfl ?_
    exact .inl ⟨NN, rfl, FB.out⟩
  cases ok4
  · have NN : refG l = none := BD.out (.inr (.inl rfl))
    have K2 : Hid (w7.heap[g2]? = some (.cells #[.int .i64 0, .int .i64 0, .int .i64 0, .int .i64 0, .string ⟨#[]⟩, .string ⟨#[]⟩, .int .i64 0, .int .i64 0, .int .i64 0, .int .i64 0, .int .i64 0, .int .i64 0, .int .i64 0, .string ⟨#[]⟩, .int .i64 0, .slice none 0 0, .int .i64 0, .int .i64 0] 28 (0, 0))) := S.out.k2
    have FB : Hid (Below w.heap.size w (w7.setRow g2 #[.int .i64 0, .int .i64 0, .int .i64 0, .int .i64 0, .string ⟨#[]⟩, .string ⟨#[]⟩, .int .i64 0, .int .i64 0, .int .i64 0, .int .i64 0, .int .i64 0, .int .i64 0, .int .i64 0, .string ⟨#[]⟩, .int .i64 0, .slice none 0 0, .int .i64 0, .int .i64 0])) := below_setRow S.out.bel (by have := S.out.e2; omega) _
    go_wp2_with (refine wpList_store_row (by rfl) 28 (.tmp 2) (.tmp 79) (by rfl) g2 #[.int .i64 0, .int .i64 0, .int .i64 0, .int .i64 0, .string ⟨#[]⟩, .string ⟨#[]⟩, .int .i64 0, .int .i64 0, .int .i64 0, .int .i64 0, .int .i64 0, .int .i64 0, .int .i64 0, .string ⟨#[]⟩, .int .i64 0, .slice none 0 0, .int .i64 0, .int .i64 0] (by rfl) (by rfl) 28 _ K2.out (by kernel_rfl) (by rfl) zz_one ?_)
    refine bodyPost_ret (res15 Tryd.results18 _ _ g2 #[.int .i64 0, .int .i64 0, .int .i64 0, .int .i64 0, .string ⟨#[]⟩, .string ⟨#[]⟩, .int .i64 0, .int .i64 0, .int .i64 0, .int .i64 0, .int .i64 0, .int .i64 0, .int .i64 0, .string ⟨#[]⟩, .int .i64 0, .slice none 0 0, .int .i64 0, .int .i64 0] (.bool false) (by rfl) (by rfl) (setRow_heap _ _ _ _ _ _ K2.out) rfl) rfl ?_
    exact .inl ⟨NN, rfl, FB.out⟩
  cases ok6
  · have NN : refG l = none := BD.out (.inr (.inr (.inl rfl)))
    have K2 : Hid (w7.heap[g2]? = some (.cells #[.int .i64 0, .int .i64 0, .int .i64 0, .int .i64 0, .string ⟨#[]⟩, .string ⟨#[]⟩, .int .i64 0, .int .i64 0, .int .i64 0, .int .i64 0, .int .i64 0, .int .i64 0, .int .i64 0, .string ⟨#[]⟩, .int .i64 0, .slice none 0 0, .int .i64 0, .int .i64 0] 28 (0, 0))) := S.out.k2
    have FB : Hid (Below w.heap.size w (w7.setRow g2 #[.int .i64 0, .int .i64 0, .int .i64 0, .int .i64 0, .string ⟨#[]⟩, .string ⟨#[]⟩, .int .i64 0, .int .i64 0, .int .i64 0, .int .i64 0, .int .i64 0, .int .i64 0, .int .i64 0, .string ⟨#[]⟩, .int .i64 0, .slice none 0 0, .int .i64 0, .int .i64 0])) := below_setRow S.out.bel (by have := S.out.e2; omega) _
    go_wp2_with (refine wpList_store_row (by rfl) 28 (.tmp 2) (.tmp 79) (by rfl) g2 #[.int .i64 0, .int .i64 0, .int .i64 0, .int .i64 0, .string ⟨#[]⟩, .string ⟨#[]⟩, .int .i64 0, .int .i64 0, .int .i64 0, .int .i64 0, .int .i64 0, .int .i64 0, .int .i64 0, .string ⟨#[]⟩, .int .i64 0, .slice none 0 0, .int .i64 0, .int .i64 0] (by rfl) (by rfl) 28 _ K2.out (by kernel_rfl) (by rfl) zz_one ?_)
    refine bodyPost_ret (res15 Tryd.results18 _ _ g2 #[.int .i64 0, .int .i64 0, .int .i64 0, .int .i64 0, .string ⟨#[]⟩, .string ⟨#[]⟩, .int .i64 0, .int .i64 0, .int .i64 0, .int .i64 0, .int .i64 0, .int .i64 0, .int .i64 0, .string ⟨#[]⟩, .int .i64 0, .slice none 0 0, .int .i64 0, .int .i64 0] (.bool false) (by rfl) (by rfl) (setRow_heap _ _ _ _ _ _ K2.out) rfl) rfl ?_
    exact .inl ⟨NN, rfl, FB.out⟩
  have EB : Hid (e2 ≤ 5 ∧ e3 ≤ 5 ∧ e5 ≤ 5) := ⟨by rcases T2.out.cs with h | h <;> omega, by rcases T3.out.cs with h | h <;> omega, by rcases T5.out.cs with h | h <;> omega⟩
  by_cases hsum : e2 + e3 + e5 = 0
  case neg =>
    obtain ⟨x1, hx1⟩ : ∃ x, x = e2 + e3 := ⟨_, rfl⟩
    obtain ⟨x2, hx2⟩ : ∃ x, x = x1 + e5 := ⟨_, rfl⟩
    have i1 : (e2 : Int) + (e3 : Int) = (x1 : Int) := by omega
    have i2 : (x1 : Int) + (e5 : Int) = (x2 : Int) := by omega
    have l1 : x1 ≤ 15 := by have := EB.out; omega
    have l2 : x2 ≤ 15 := by have := EB.out; omega
    have i3 : ¬ ((x2 : Int) = 0) := by omega
    have i4 : ¬ (x2 = 0) := by omega
    have HS : Hid (¬ (e2 + e3 + e5 = 0)) := hsum
    clear hsum hx1 hx2
    have NN : refG l = none := BD.out (.inr (.inr (.inr HS.out)))
    have K2 : Hid (w7.heap[g2]? = some (.cells #[.int .i64 0, .int .i64 0, .int .i64 0, .int .i64 0, .string ⟨#[]⟩, .string ⟨#[]⟩, .int .i64 0, .int .i64 0, .int .i64 0, .int .i64 0, .int .i64 0, .int .i64 0, .int .i64 0, .string ⟨#[]⟩, .int .i64 0, .slice none 0 0, .int .i64 0, .int .i64 0] 28 (0, 0))) := S.out.k2
    have FB : Hid (Below w.heap.size w (w7.setRow g2 #[.int .i64 0, .int .i64 0, .int .i64 0, .int .i64 0, .string ⟨#[]⟩, .string ⟨#[]⟩, .int .i64 0, .int .i64 0, .int .i64 0, .int .i64 0, .int .i64 0, .int .i64 0, .int .i64 0, .string ⟨#[]⟩, .int .i64 0, .slice none 0 0, .int .i64 0, .int .i64 0])) := below_setRow S.out.bel (by have := S.out.e2; omega) _
    go_wp2_with (refine wpList_store_row (by rfl) 28 (.tmp 2) (.tmp 79) (by rfl) g2 #[.int .i64 0, .int .i64 0, .int .i64 0, .int .i64 0, .string ⟨#[]⟩, .string ⟨#[]⟩, .int .i64 0, .int .i64 0, .int .i64 0, .int .i64 0, .int .i64 0, .int .i64 0, .int .i64 0, .string ⟨#[]⟩, .int .i64 0, .slice none 0 0, .int .i64 0, .int .i64 0] (by rfl) (by rfl) 28 _ K2.out (by kernel_rfl) (by rfl) zz_one ?_)
    refine bodyPost_ret (res15 Tryd.results18 _ _ g2 #[.int .i64 0, .int .i64 0, .int .i64 0, .int .i64 0, .string ⟨#[]⟩, .string ⟨#[]⟩, .int .i64 0, .int .i64 0, .int .i64 0, .int .i64 0, .int .i64 0, .int .i64 0, .int .i64 0, .string ⟨#[]⟩, .int .i64 0, .slice none 0 0, .int .i64 0, .int .i64 0] (.bool false) (by rfl) (by rfl) (setRow_heap _ _ _ _ _ _ K2.out) rfl) rfl ?_
    exact .inl ⟨NN, rfl, FB.out⟩
  obtain ⟨rfl, rfl, rfl⟩ : e2 = 0 ∧ e3 = 0 ∧ e5 = 0 := by omega
  clear hsum EB BD
  have y1 := (T1.out.yes rfl)
  have y4 := (T4.out.yes rfl)
  have y6 := (T6.out.yes rfl)
  have y2 : rt l p1 63 = some (L2, p2) := by rcases T2.out.cs with h | h; exact h.2; exact absurd h.1 (by decide)
  have y3 : rt l p2 200 = some (L3, p3) := by rcases T3.out.cs with h | h; exact h.2; exact absurd h.1 (by decide)
  have y5 : rt l p4 64 = some (L5, p5) := by rcases T5.out.cs with h | h; exact h.2; exact absurd h.1 (by decide)
  obtain ⟨K, I0, I1, I2, hS1⟩ := len4 (rp_len y1.1)
  obtain ⟨U0, U1, U2, B0, B1, B2, SZ, hS4⟩ := len7 (rp_len y4.1)
  obtain ⟨PT, k, hS6⟩ := len2 (rp_len y6.1)
  subst hS1 hS4 hS6
  have RC := refC_good y1.1 y2 y3 y4.1 y5 y6.1
  have eg : ([PT, k] : List Nat).getD 1 0 = k := rfl
  rw [eg] at RC
  have HRC := show Hid (refC l = _) from RC
  clear RC eg
  obtain ⟨_, rfl, hc1, _⟩ := y1
  obtain ⟨_, rfl, hc4, _⟩ := y4
  obtain ⟨_, rfl, hc6, _⟩ := y6
  have M2 : Hid (m2 ≤ 1000) := T2.out.ln
  have M3 : Hid (m3 ≤ 1000) := T3.out.ln
  have M5 : Hid (m5 ≤ 1000) := T5.out.ln
  clear y2 y3 y5 T1 T2 T3 T4 T5 T6
  obtain ⟨b6, o6, rfl, q60⟩ := (R6.out rfl).at_ (i := 1) (by omega)
  have q61 : w7.cell? ⟨b6, o6 + 1, none⟩ = some (.int .i64 (k : Int)) := q60
  clear q60
  by_cases h16 : 16 < k
  · have i16 : (16 : Int) < (k : Int) := by omega
    have NN0 : refG l = none := refG_none (by rw [HRC.out]; exact if_pos h16)
    have HNN := show Hid (refG l = none) from NN0
    clear NN0
    have NN : refG l = none := HNN.out
    have K2 : Hid (w7.heap[g2]? = some (.cells #[.int .i64 0, .int .i64 0, .int .i64 0, .int .i64 0, .string ⟨#[]⟩, .string ⟨#[]⟩, .int .i64 0, .int .i64 0, .int .i64 0, .int .i64 0, .int .i64 0, .int .i64 0, .int .i64 0, .string ⟨#[]⟩, .int .i64 0, .slice none 0 0, .int .i64 0, .int .i64 0] 28 (0, 0))) := S.out.k2
    have FB : Hid (Below w.heap.size w (w7.setRow g2 #[.int .i64 0, .int .i64 0, .int .i64 0, .int .i64 0, .string ⟨#[]⟩, .string ⟨#[]⟩, .int .i64 0, .int .i64 0, .int .i64 0, .int .i64 0, .int .i64 0, .int .i64 0, .int .i64 0, .string ⟨#[]⟩, .int .i64 0, .slice none 0 0, .int .i64 0, .int .i64 0])) := below_setRow S.out.bel (by have := S.out.e2; omega) _
    go_wp2_with (refine wpList_store_row (by rfl) 28 (.tmp 2) (.tmp 79) (by rfl) g2 #[.int .i64 0, .int .i64 0, .int .i64 0, .int .i64 0, .string ⟨#[]⟩, .string ⟨#[]⟩, .int .i64 0, .int .i64 0, .int .i64 0, .int .i64 0, .int .i64 0, .int .i64 0, .int .i64 0, .string ⟨#[]⟩, .int .i64 0, .slice none 0 0, .int .i64 0, .int .i64 0] (by rfl) (by rfl) 28 _ K2.out (by kernel_rfl) (by rfl) zz_one ?_)
    refine bodyPost_ret (res15 Tryd.results18 _ _ g2 #[.int .i64 0, .int .i64 0, .int .i64 0, .int .i64 0, .string ⟨#[]⟩, .string ⟨#[]⟩, .int .i64 0, .int .i64 0, .int .i64 0, .int .i64 0, .int .i64 0, .int .i64 0, .int .i64 0, .string ⟨#[]⟩, .int .i64 0, .slice none 0 0, .int .i64 0, .int .i64 0] (.bool false) (by rfl) (by rfl) (setRow_heap _ _ _ _ _ _ K2.out) rfl) rfl ?_
    exact .inl ⟨NN, rfl, FB.out⟩
  have i16 : ¬ ((16 : Int) < (k : Int)) := by omega
  have HK : Hid (k ≤ 16) := by show k ≤ 16; omega
  have R1u : Hid (Irow w7 (w.heap.size + 2) a1 4 ([K, I0, I1, I2].map fun x : Nat => (x : Int))) := R1.out (by first | rfl | trivial)
  clear R1
  have R1 := R1u
  clear R1u
  have R4u : Hid (Irow w7 (w.heap.size + 2) a4 7 ([U0, U1, U2, B0, B1, B2, SZ].map fun x : Nat => (x : Int))) := R4.out (by first | rfl | trivial)
  clear R4
  have R4 := R4u
  clear R4u
  have R6u : Hid (Irow w7 (w.heap.size + 2) (some ⟨b6, o6, none⟩) 2 ([PT, k].map fun x : Nat => (x : Int))) := R6.out (by first | rfl | trivial)
  clear R6
  have R6 := R6u
  clear R6u
  go_upto_region 11 with (go_at_call 43; refine (take_z k (by rfl) (show Hid (Rrf w7 g4 a n c l p6) from S.out.rrf) (by omega)).mono ?_; rintro e w8 ⟨a7, m7, c7, ok7, S7, p7, rfl, T7⟩)
  have Sn : Hid (Gq w w8 g2 g4 a n c l p7) := S.out.step T7.out.rrf T7.out.fr
  have R1n : Hid (Irow w8 (w.heap.size + 2) a1 4 ([K, I0, I1, I2].map fun x : Nat => (x : Int))) := irow_wfr R1.out T7.out.fr (by have := S.out.e4; omega)
  have R2n : Hid (Own w8 (w.heap.size + 2) a2 m2 c2 L2) := own_wfr R2.out T7.out.fr (by have := S.out.e4; omega)
  have R3n : Hid (Own w8 (w.heap.size + 2) a3 m3 c3 L3) := own_wfr R3.out T7.out.fr (by have := S.out.e4; omega)
  have R4n : Hid (Irow w8 (w.heap.size + 2) a4 7 ([U0, U1, U2, B0, B1, B2, SZ].map fun x : Nat => (x : Int))) := irow_wfr R4.out T7.out.fr (by have := S.out.e4; omega)
  have R5n : Hid (Own w8 (w.heap.size + 2) a5 m5 c5 L5) := own_wfr R5.out T7.out.fr (by have := S.out.e4; omega)
  have R6n : Hid (Irow w8 (w.heap.size + 2) (some ⟨b6, o6, none⟩) 2 ([PT, k].map fun x : Nat => (x : Int))) := irow_wfr R6.out T7.out.fr (by have := S.out.e4; omega)
  clear R1
  have R1 := R1n
  clear R1n
  clear R2
  have R2 := R2n
  clear R2n
  clear R3
  have R3 := R3n
  clear R3n
  clear R4
  have R4 := R4n
  clear R4n
  clear R5
  have R5 := R5n
  clear R5n
  clear R6
  have R6 := R6n
  clear R6n
  have R7 : Hid (ok7 = true → Iro w8 (w.heap.size + 2) a7 m7 c7 (S7.map fun x : Nat => (x : Int))) := fun h => (Iro.mk (T7.out.yes h).2.2.2 (T7.out.own h)).mono S.out.lo
  clear S
  have S := Sn
  clear Sn
  clear q61
  go_upto_region 12 with (go_at_call 43; refine (take_z 2 (by rfl) (show Hid (Rrf w8 g4 a n c l p7) from S.out.rrf) (by omega)).mono ?_; rintro e w9 ⟨a8, m8, c8, ok8, S8, p8, rfl, T8⟩)
  have Sn : Hid (Gq w w9 g2 g4 a n c l p8) := S.out.step T8.out.rrf T8.out.fr
  have R1n : Hid (Irow w9 (w.heap.size + 2) a1 4 ([K, I0, I1, I2].map fun x : Nat => (x : Int))) := irow_wfr R1.out T8.out.fr (by have := S.out.e4; omega)
  have R2n : Hid (Own w9 (w.heap.size + 2) a2 m2 c2 L2) := own_wfr R2.out T8.out.fr (by have := S.out.e4; omega)
  have R3n : Hid (Own w9 (w.heap.size + 2) a3 m3 c3 L3) := own_wfr R3.out T8.out.fr (by have := S.out.e4; omega)
  have R4n : Hid (Irow w9 (w.heap.size + 2) a4 7 ([U0, U1, U2, B0, B1, B2, SZ].map fun x : Nat => (x : Int))) := irow_wfr R4.out T8.out.fr (by have := S.out.e4; omega)
  have R5n : Hid (Own w9 (w.heap.size + 2) a5 m5 c5 L5) := own_wfr R5.out T8.out.fr (by have := S.out.e4; omega)
  have R6n : Hid (Irow w9 (w.heap.size + 2) (some ⟨b6, o6, none⟩) 2 ([PT, k].map fun x : Nat => (x : Int))) := irow_wfr R6.out T8.out.fr (by have := S.out.e4; omega)
  have R7n : Hid (ok7 = true → Iro w9 (w.heap.size + 2) a7 m7 c7 (S7.map fun x : Nat => (x : Int))) := fun h => iro_wfr (R7.out h) T8.out.fr (by have := S.out.e4; omega)
  clear R1
  have R1 := R1n
  clear R1n
  clear R2
  have R2 := R2n
  clear R2n
  clear R3
  have R3 := R3n
  clear R3n
  clear R4
  have R4 := R4n
  clear R4n
  clear R5
  have R5 := R5n
  clear R5n
  clear R6
  have R6 := R6n
  clear R6n
  clear R7
  have R7 := R7n
  clear R7n
  have R8 : Hid (ok8 = true → Irow w9 (w.heap.size + 2) a8 m8 (S8.map fun x : Nat => (x : Int))) := fun h => (T8.out.yes h).2.2.2.mono S.out.lo
  clear S
  have S := Sn
  clear Sn
  have RD : Hid ((ok7 = false ∨ ok8 = false ∨ p8 ≠ n) → refG l = none) := fun h => by
    have hlen := hS.out.len
    unfold refG
    rw [HRC.out, if_neg h16]
    cases ok7
    · rw [T7.out.no rfl]; rfl
    rw [(T7.out.yes rfl).1, Option.bind_some]
    simp only
    cases ok8
    · rw [T8.out.no rfl]; rfl
    rw [(T8.out.yes rfl).1, Option.bind_some, Option.bind_some]
    simp only
    rw [if_neg]
    rintro ⟨_, h2⟩
    rcases h with h | h | h
    · cases h
    · cases h
    · omega
  have QA := S.out.rrf.c1
  cases ok7
  · have NN : refG l = none := RD.out (.inl rfl)
    have K2 : Hid (w9.heap[g2]? = some (.cells #[.int .i64 0, .int .i64 0, .int .i64 0, .int .i64 0, .string ⟨#[]⟩, .string ⟨#[]⟩, .int .i64 0, .int .i64 0, .int .i64 0, .int .i64 0, .int .i64 0, .int .i64 0, .int .i64 0, .string ⟨#[]⟩, .int .i64 0, .slice none 0 0, .int .i64 0, .int .i64 0] 28 (0, 0))) := S.out.k2
    have FB : Hid (Below w.heap.size w (w9.setRow g2 #[.int .i64 0, .int .i64 0, .int .i64 0, .int .i64 0, .string ⟨#[]⟩, .string ⟨#[]⟩, .int .i64 0, .int .i64 0, .int .i64 0, .int .i64 0, .int .i64 0, .int .i64 0, .int .i64 0, .string ⟨#[]⟩, .int .i64 0, .slice none 0 0, .int .i64 0, .int .i64 0])) := below_setRow S.out.bel (by have := S.out.e2; omega) _
    go_wp2_with (refine wpList_store_row (by rfl) 28 (.tmp 2) (.tmp 108) (by rfl) g2 #[.int .i64 0, .int .i64 0, .int .i64 0, .int .i64 0, .string ⟨#[]⟩, .string ⟨#[]⟩, .int .i64 0, .int .i64 0, .int .i64 0, .int .i64 0, .int .i64 0, .int .i64 0, .int .i64 0, .string ⟨#[]⟩, .int .i64 0, .slice none 0 0, .int .i64 0, .int .i64 0] (by rfl) (by rfl) 28 _ K2.out (by kernel_rfl) (by rfl) zz_one ?_)
    refine bodyPost_ret (res15 Tryd.results18 _ _ g2 #[.int .i64 0, .int .i64 0, .int .i64 0, .int .i64 0, .string ⟨#[]⟩, .string ⟨#[]⟩, .int .i64 0, .int .i64 0, .int .i64 0, .int .i64 0, .int .i64 0, .int .i64 0, .int .i64 0, .string ⟨#[]⟩, .int .i64 0, .slice none 0 0, .int .i64 0, .int .i64 0] (.bool false) (by rfl) (by rfl) (setRow_heap _ _ _ _ _ _ K2.out) rfl) rfl ?_
    exact .inl ⟨NN, rfl, FB.out⟩
  cases ok8
  · have NN : refG l = none := RD.out (.inr (.inl rfl))
    have K2 : Hid (w9.heap[g2]? = some (.cells #[.int .i64 0, .int .i64 0, .int .i64 0, .int .i64 0, .string ⟨#[]⟩, .string ⟨#[]⟩, .int .i64 0, .int .i64 0, .int .i64 0, .int .i64 0, .int .i64 0, .int .i64 0, .int .i64 0, .string ⟨#[]⟩, .int .i64 0, .slice none 0 0, .int .i64 0, .int .i64 0] 28 (0, 0))) := S.out.k2
    have FB : Hid (Below w.heap.size w (w9.setRow g2 #[.int .i64 0, .int .i64 0, .int .i64 0, .int .i64 0, .string ⟨#[]⟩, .string ⟨#[]⟩, .int .i64 0, .int .i64 0, .int .i64 0, .int .i64 0, .int .i64 0, .int .i64 0, .int .i64 0, .string ⟨#[]⟩, .int .i64 0, .slice none 0 0, .int .i64 0, .int .i64 0])) := below_setRow S.out.bel (by have := S.out.e2; omega) _
    go_wp2_with (refine wpList_store_row (by rfl) 28 (.tmp 2) (.tmp 108) (by rfl) g2 #[.int .i64 0, .int .i64 0, .int .i64 0, .int .i64 0, .string ⟨#[]⟩, .string ⟨#[]⟩, .int .i64 0, .int .i64 0, .int .i64 0, .int .i64 0, .int .i64 0, .int .i64 0, .int .i64 0, .string ⟨#[]⟩, .int .i64 0, .slice none 0 0, .int .i64 0, .int .i64 0] (by rfl) (by rfl) 28 _ K2.out (by kernel_rfl) (by rfl) zz_one ?_)
    refine bodyPost_ret (res15 Tryd.results18 _ _ g2 #[.int .i64 0, .int .i64 0, .int .i64 0, .int .i64 0, .string ⟨#[]⟩, .string ⟨#[]⟩, .int .i64 0, .int .i64 0, .int .i64 0, .int .i64 0, .int .i64 0, .int .i64 0, .int .i64 0, .string ⟨#[]⟩, .int .i64 0, .slice none 0 0, .int .i64 0, .int .i64 0] (.bool false) (by rfl) (by rfl) (setRow_heap _ _ _ _ _ _ K2.out) rfl) rfl ?_
    exact .inl ⟨NN, rfl, FB.out⟩
  by_cases hpn : p8 = n
  case neg =>
    have i8 : ¬ ((p8 : Int) = (n : Int)) := by omega
    have NN : refG l = none := RD.out (.inr (.inr hpn))
    have K2 : Hid (w9.heap[g2]? = some (.cells #[.int .i64 0, .int .i64 0, .int .i64 0, .int .i64 0, .string ⟨#[]⟩, .string ⟨#[]⟩, .int .i64 0, .int .i64 0, .int .i64 0, .int .i64 0, .int .i64 0, .int .i64 0, .int .i64 0, .string ⟨#[]⟩, .int .i64 0, .slice none 0 0, .int .i64 0, .int .i64 0] 28 (0, 0))) := S.out.k2
    have FB : Hid (Below w.heap.size w (w9.setRow g2 #[.int .i64 0, .int .i64 0, .int .i64 0, .int .i64 0, .string ⟨#[]⟩, .string ⟨#[]⟩, .int .i64 0, .int .i64 0, .int .i64 0, .int .i64 0, .int .i64 0, .int .i64 0, .int .i64 0, .string ⟨#[]⟩, .int .i64 0, .slice none 0 0, .int .i64 0, .int .i64 0])) := below_setRow S.out.bel (by have := S.out.e2; omega) _
    go_wp2_with (refine wpList_store_row (by rfl) 28 (.tmp 2) (.tmp 108) (by rfl) g2 #[.int .i64 0, .int .i64 0, .int .i64 0, .int .i64 0, .string ⟨#[]⟩, .string ⟨#[]⟩, .int .i64 0, .int .i64 0, .int .i64 0, .int .i64 0, .int .i64 0, .int .i64 0, .int .i64 0, .string ⟨#[]⟩, .int .i64 0, .slice none 0 0, .int .i64 0, .int .i64 0] (by rfl) (by rfl) 28 _ K2.out (by kernel_rfl) (by rfl) zz_one ?_)
    refine bodyPost_ret (res15 Tryd.results18 _ _ g2 #[.int .i64 0, .int .i64 0, .int .i64 0, .int .i64 0, .string ⟨#[]⟩, .string ⟨#[]⟩, .int .i64 0, .int .i64 0, .int .i64 0, .int .i64 0, .int .i64 0, .int .i64 0, .int .i64 0, .string ⟨#[]⟩, .int .i64 0, .slice none 0 0, .int .i64 0, .int .i64 0] (.bool false) (by rfl) (by rfl) (setRow_heap _ _ _ _ _ _ K2.out) rfl) rfl ?_
    exact .inl ⟨NN, rfl, FB.out⟩
  subst hpn
  go_upto_region 14 with (fail)
  clear RD
  have y7 := (T7.out.yes rfl)
  have y8 := (T8.out.yes rfl)
  obtain ⟨TM, DY, hS8⟩ := len2 (rp_len y8.1)
  subst hS8
  have RG : Hid (refG l = if frm (Nm.cm ⟨K, I0, I1, I2, spell L2, spell L3, U0, U1, U2, B0, B1, B2, SZ, spell L5, PT, S7, TM, DY⟩) = true then some ⟨K, I0, I1, I2, spell L2, spell L3, U0, U1, U2, B0, B1, B2, SZ, spell L5, PT, S7, TM, DY⟩ else none) := by
    have hlen := hS.out.len
    show _ = _
    unfold refG
    rw [HRC.out, if_neg h16, y7.1, Option.bind_some]
    simp only
    rw [y8.1, Option.bind_some, Option.bind_some]
    have e : mkC [K, I0, I1, I2] L2 L3 [U0, U1, U2, B0, B1, B2, SZ] L5 [PT, k] S7 [TM, DY] = ⟨K, I0, I1, I2, spell L2, spell L3, U0, U1, U2, B0, B1, B2, SZ, spell L5, PT, S7, TM, DY⟩ := rfl
    simp only [e, ← hlen, and_true]
  obtain ⟨_, hm7, hc7, _⟩ := y7
  obtain ⟨_, rfl, hc8, _⟩ := y8
  subst hm7
  clear T7 T8 HRC
  have R7u : Hid (Iro w9 (w.heap.size + 2) a7 m7 c7 (S7.map fun x : Nat => (x : Int))) := R7.out (by first | rfl | trivial)
  have R8u : Hid (Irow w9 (w.heap.size + 2) a8 2 ([TM, DY].map fun x : Nat => (x : Int))) := R8.out (by first | rfl | trivial)
  clear R7 R8 QA
  obtain ⟨b1, o1, rfl, _⟩ := R1.out.at_ (i := 0) (by omega)
  obtain ⟨b4, o4, rfl, _⟩ := R4.out.at_ (i := 0) (by omega)
  obtain ⟨b8, o8, rfl, _⟩ := R8u.out.at_ (i := 0) (by omega)
  obtain ⟨V, HV⟩ : ∃ V, Hid (w9.drew = V) := ⟨_, rfl⟩
  have bV : Hid (Below w9.heap.size w9 V) := by rw [← HV.out]; exact below_drewN (Below.refl _ _) 1
  have VE : Hid (V.heap.size = w9.heap.size) := by rw [← HV.out]; rfl
  have V1 : Hid (Irow V 0 (some ⟨b1, o1, none⟩) 4 ([K, I0, I1, I2].map fun x : Nat => (x : Int))) := (R1.out.below bV.out).mono (Nat.zero_le _)
  have V4 : Hid (Irow V 0 (some ⟨b4, o4, none⟩) 7 ([U0, U1, U2, B0, B1, B2, SZ].map fun x : Nat => (x : Int))) := (R4.out.below bV.out).mono (Nat.zero_le _)
  have V6 : Hid (Irow V 0 (some ⟨b6, o6, none⟩) 2 ([PT, m7].map fun x : Nat => (x : Int))) := (R6.out.below bV.out).mono (Nat.zero_le _)
  have V8 : Hid (Irow V 0 (some ⟨b8, o8, none⟩) 2 ([TM, DY].map fun x : Nat => (x : Int))) := (R8u.out.below bV.out).mono (Nat.zero_le _)
  have V7 : Hid (Iro V (w.heap.size + 2) a7 m7 c7 (S7.map fun x : Nat => (x : Int))) := R7u.out.below bV.out
  have V2 : Hid (Own V (w.heap.size + 2) a2 m2 c2 L2) := R2.out.below bV.out
  have V3 : Hid (Own V (w.heap.size + 2) a3 m3 c3 L3) := R3.out.below bV.out
  have V5 : Hid (Own V (w.heap.size + 2) a5 m5 c5 L5) := R5.out.below bV.out
  have SV : Hid (Gq w V g2 g4 a p8 c l p8) := S.out.step (S.out.rrf.below bV.out) (wfr_below g4 bV.out)
  clear R1 R2 R3 R4 R5 R6 R7u R8u S bV VE
  have CL : Hid (∀ {b o m : Nat} {L : List Int} (j : Nat) (x : Int), Irow V 0 (some ⟨b, o, none⟩) m L → j < m → L.getD j 0 = x → ∀ W : World, Below V.heap.size V W → W.cell? ⟨b, o + j, none⟩ = some (.int .i64 x)) := fun {b o m L} j x hI hj hx W hW => by
    obtain ⟨b', o', e, h⟩ := (hI.below hW).at_ hj
    cases e
    rw [h, hx]
  have l2 := CL.out 0 (K : Int) V1.out (by omega) rfl
  have l17 := CL.out 6 (SZ : Int) V4.out (by omega) rfl
  have l23 := CL.out 0 (PT : Int) V6.out (by omega) rfl
  have l27 := CL.out 0 (TM : Int) V8.out (by omega) rfl
  have l30 := CL.out 1 (DY : Int) V8.out (by omega) rfl
  have K2 : Hid (∀ W : World, Below V.heap.size V W → W.cell? ⟨b1, o1, none⟩ = some (.int .i64 (K : Int))) := l2
  have K17 : Hid (∀ W : World, Below V.heap.size V W → W.cell? ⟨b4, o4 + 6, none⟩ = some (.int .i64 (SZ : Int))) := l17
  have K23 : Hid (∀ W : World, Below V.heap.size V W → W.cell? ⟨b6, o6, none⟩ = some (.int .i64 (PT : Int))) := l23
  have K27 : Hid (∀ W : World, Below V.heap.size V W → W.cell? ⟨b8, o8, none⟩ = some (.int .i64 (TM : Int))) := l27
  have K30 : Hid (∀ W : World, Below V.heap.size V W → W.cell? ⟨b8, o8 + 1, none⟩ = some (.int .i64 (DY : Int))) := l30
  have Q2 : Hid (∀ W : World, Below V.heap.size V W → (convert 35 9 (.slice a2 m2 c2)).run Tryd.prog W = .ok (.string (spell L2)) W) := fun W hW => conv_n ((V2.out.below hW).sln (by have := M2.out; omega))
  have Q3 : Hid (∀ W : World, Below V.heap.size V W → (convert 35 9 (.slice a3 m3 c3)).run Tryd.prog W = .ok (.string (spell L3)) W) := fun W hW => conv_n ((V3.out.below hW).sln (by have := M3.out; omega))
  have Q5 : Hid (∀ W : World, Below V.heap.size V W → (convert 35 9 (.slice a5 m5 c5)).run Tryd.prog W = .ok (.string (spell L5)) W) := fun W hW => conv_n ((V5.out.below hW).sln (by have := M5.out; omega))
  have J1 : Hid (∀ W : World, Below V.heap.size V W → Irow W 0 (some ⟨b1, o1 + 1, none⟩) 3 ([I0, I1, I2].map fun x : Nat => (x : Int))) := fun W hW => irow_from (V1.out.below hW) 1
  have J4 : Hid (∀ W : World, Below V.heap.size V W → Irow W 0 (some ⟨b4, o4, none⟩) 7 ([U0, U1, U2, B0, B1, B2, SZ].map fun x : Nat => (x : Int))) := fun W hW => V4.out.below hW
  have J5 : Hid (∀ W : World, Below V.heap.size V W → Irow W 0 (some ⟨b4, o4 + 3, none⟩) 4 ([B0, B1, B2, SZ].map fun x : Nat => (x : Int))) := fun W hW => irow_from (V4.out.below hW) 3
  have LN : Hid (m2 = L2.length ∧ m3 = L3.length ∧ m5 = L5.length) := ⟨V2.out.len, V3.out.len, V5.out.len⟩
  clear l2 l17 l23 l27 l30 CL V1 V2 V3 V4 V5 V6 V8
  have n1 : ¬ (c1 = 1) := by omega
  have n4 : ¬ (c4 = 3) := by omega
  have n1i : (1 : Int) ≤ (c1 : Int) := by omega
  have n4i : (3 : Int) ≤ (c4 : Int) := by omega
  have B0V : Hid (Below V.heap.size V V) := Below.refl _ _
  refine wp_region_till (ops := opr18) (S := fun _ W => Below V.heap.size V W) (by kernel_rfl) (by rw [HV.out]; exact B0V.out) (fun hSS => ?_)
  rw [HV.out]
  clear hSS HV
  refine till_load (i := 0) (oi := { dst := some 109, op := Go.Op.move (Go.Operand.tmp 5), type := 26, pos := "ref.go:135", after := #[], guard := none }) (v := .slice (some ⟨b1, o1, none⟩) 4 c1) (by kernel_rfl) (by kernel_rfl) (by kernel_rfl) (by kernel_rfl) (fun _ _ _ h => h) (Or.inl ⟨by kernel_rfl, fun W hW => by go_simp⟩) B0V.out ?_
  simp only [List.getElem_toArray, List.getElem_cons_zero, List.getElem_cons_succ, Act.put, List.setIfInBounds_toArray, List.set_cons_zero, List.set_cons_succ]
  refine till_load (i := 1) (oi := { dst := some 110, op := Go.Op.indexAddr 26 (Go.Operand.tmp 109) (Go.Operand.const (Go.Value.int Go.IntKind.i64 0)), type := 0, pos := "ref.go:135", after := #[{ on := 0, ground := Go.Ground.data }], guard := none }) (v := .pointer (some ⟨b1, o1, none⟩)) (by kernel_rfl) (by kernel_rfl) (by kernel_rfl) (by kernel_rfl) (fun _ _ _ h => h) (Or.inl ⟨by kernel_rfl, fun W hW => by go_simp⟩) B0V.out ?_
  simp only [List.getElem_toArray, List.getElem_cons_zero, List.getElem_cons_succ, Act.put, List.setIfInBounds_toArray, List.set_cons_zero, List.set_cons_succ]
  refine till_load (i := 2) (oi := { dst := some 111, op := Go.Op.load 3 (Go.Operand.tmp 110), type := 3, pos := "ref.go:135", after := #[{ on := 1, ground := Go.Ground.data }], guard := none }) (v := .int .i64 (K : Int)) (by kernel_rfl) (by kernel_rfl) (by kernel_rfl) (by kernel_rfl) (fun _ _ _ h => h) (Or.inl ⟨by kernel_rfl, fun W hW => by have q0 := K2.out W hW; go_simp⟩) B0V.out ?_
  simp only [List.getElem_toArray, List.getElem_cons_zero, List.getElem_cons_succ, Act.put, List.setIfInBounds_toArray, List.set_cons_zero, List.set_cons_succ]
  refine till_load (i := 3) (oi := { dst := some 112, op := Go.Op.move (Go.Operand.tmp 5), type := 26, pos := "ref.go:135", after := #[], guard := none }) (v := .slice (some ⟨b1, o1, none⟩) 4 c1) (by kernel_rfl) (by kernel_rfl) (by kernel_rfl) (by kernel_rfl) (fun _ _ _ h => h) (Or.inl ⟨by kernel_rfl, fun W hW => by go_simp⟩) B0V.out ?_
  simp only [List.getElem_toArray, List.getElem_cons_zero, List.getElem_cons_succ, Act.put, List.setIfInBounds_toArray, List.set_cons_zero, List.set_cons_succ]
  refine till_load (i := 4) (oi := { dst := some 113, op := Go.Op.slice 26 (Go.Operand.tmp 112) (some (Go.Operand.const (Go.Value.int Go.IntKind.i64 1))) none none, type := 26, pos := "ref.go:135", after := #[{ on := 3, ground := Go.Ground.data }], guard := none }) (v := .slice (some ⟨b1, o1 + 1, none⟩) 3 (c1 - 1)) (by kernel_rfl) (by kernel_rfl) (by kernel_rfl) (by kernel_rfl) (fun _ _ _ h => h) (Or.inl ⟨by kernel_rfl, fun W hW => by go_simp⟩) B0V.out ?_
  simp only [List.getElem_toArray, List.getElem_cons_zero, List.getElem_cons_succ, Act.put, List.setIfInBounds_toArray, List.set_cons_zero, List.set_cons_succ]
  refine till_load (i := 6) (oi := { dst := some 115, op := Go.Op.move (Go.Operand.tmp 7), type := 35, pos := "ref.go:135", after := #[], guard := none }) (v := .slice a2 m2 c2) (by kernel_rfl) (by kernel_rfl) (by kernel_rfl) (by kernel_rfl) (fun _ _ _ h => h) (Or.inl ⟨by kernel_rfl, fun W hW => by go_simp⟩) B0V.out ?_
  simp only [List.getElem_toArray, List.getElem_cons_zero, List.getElem_cons_succ, Act.put, List.setIfInBounds_toArray, List.set_cons_zero, List.set_cons_succ]
  refine till_load (i := 7) (oi := { dst := some 116, op := Go.Op.convert 35 9 (Go.Operand.tmp 115), type := 9, pos := "ref.go:135", after := #[{ on := 6, ground := Go.Ground.data }], guard := none }) (v := .string (spell L2)) (by kernel_rfl) (by kernel_rfl) (by kernel_rfl) (by kernel_rfl) (fun _ _ _ h => h) (Or.inl ⟨by kernel_rfl, fun W hW => by have q0 := Q2.out W hW; go_simp⟩) B0V.out ?_
  simp only [List.getElem_toArray, List.getElem_cons_zero, List.getElem_cons_succ, Act.put, List.setIfInBounds_toArray, List.set_cons_zero, List.set_cons_succ]
  refine till_load (i := 8) (oi := { dst := some 117, op := Go.Op.move (Go.Operand.tmp 9), type := 35, pos := "ref.go:135", after := #[], guard := none }) (v := .slice a3 m3 c3) (by kernel_rfl) (by kernel_rfl) (by kernel_rfl) (by kernel_rfl) (fun _ _ _ h => h) (Or.inl ⟨by kernel_rfl, fun W hW => by go_simp⟩) B0V.out ?_
  simp only [List.getElem_toArray, List.getElem_cons_zero, List.getElem_cons_succ, Act.put, List.setIfInBounds_toArray, List.set_cons_zero, List.set_cons_succ]
  refine till_load (i := 9) (oi := { dst := some 118, op := Go.Op.convert 35 9 (Go.Operand.tmp 117), type := 9, pos := "ref.go:135", after := #[{ on := 8, ground := Go.Ground.data }], guard := none }) (v := .string (spell L3)) (by kernel_rfl) (by kernel_rfl) (by kernel_rfl) (by kernel_rfl) (fun _ _ _ h => h) (Or.inl ⟨by kernel_rfl, fun W hW => by have q0 := Q3.out W hW; go_simp⟩) B0V.out ?_
  simp only [List.getElem_toArray, List.getElem_cons_zero, List.getElem_cons_succ, Act.put, List.setIfInBounds_toArray, List.set_cons_zero, List.set_cons_succ]
  refine till_load (i := 10) (oi := { dst := some 119, op := Go.Op.move (Go.Operand.tmp 11), type := 26, pos := "ref.go:135", after := #[], guard := none }) (v := .slice (some ⟨b4, o4, none⟩) 7 c4) (by kernel_rfl) (by kernel_rfl) (by kernel_rfl) (by kernel_rfl) (fun _ _ _ h => h) (Or.inl ⟨by kernel_rfl, fun W hW => by go_simp⟩) B0V.out ?_
  simp only [List.getElem_toArray, List.getElem_cons_zero, List.getElem_cons_succ, Act.put, List.setIfInBounds_toArray, List.set_cons_zero, List.set_cons_succ]
  refine till_load (i := 12) (oi := { dst := some 121, op := Go.Op.move (Go.Operand.tmp 11), type := 26, pos := "ref.go:135", after := #[], guard := none }) (v := .slice (some ⟨b4, o4, none⟩) 7 c4) (by kernel_rfl) (by kernel_rfl) (by kernel_rfl) (by kernel_rfl) (fun _ _ _ h => h) (Or.inl ⟨by kernel_rfl, fun W hW => by go_simp⟩) B0V.out ?_
  simp only [List.getElem_toArray, List.getElem_cons_zero, List.getElem_cons_succ, Act.put, List.setIfInBounds_toArray, List.set_cons_zero, List.set_cons_succ]
  refine till_load (i := 13) (oi := { dst := some 122, op := Go.Op.slice 26 (Go.Operand.tmp 121) (some (Go.Operand.const (Go.Value.int Go.IntKind.i64 3))) none none, type := 26, pos := "ref.go:135", after := #[{ on := 12, ground := Go.Ground.data }], guard := none }) (v := .slice (some ⟨b4, o4 + 3, none⟩) 4 (c4 - 3)) (by kernel_rfl) (by kernel_rfl) (by kernel_rfl) (by kernel_rfl) (fun _ _ _ h => h) (Or.inl ⟨by kernel_rfl, fun W hW => by go_simp⟩) B0V.out ?_
  simp only [List.getElem_toArray, List.getElem_cons_zero, List.getElem_cons_succ, Act.put, List.setIfInBounds_toArray, List.set_cons_zero, List.set_cons_succ]
  refine till_load (i := 15) (oi := { dst := some 124, op := Go.Op.move (Go.Operand.tmp 11), type := 26, pos := "ref.go:135", after := #[], guard := none }) (v := .slice (some ⟨b4, o4, none⟩) 7 c4) (by kernel_rfl) (by kernel_rfl) (by kernel_rfl) (by kernel_rfl) (fun _ _ _ h => h) (Or.inl ⟨by kernel_rfl, fun W hW => by go_simp⟩) B0V.out ?_
  simp only [List.getElem_toArray, List.getElem_cons_zero, List.getElem_cons_succ, Act.put, List.setIfInBounds_toArray, List.set_cons_zero, List.set_cons_succ]
  refine till_load (i := 16) (oi := { dst := some 125, op := Go.Op.indexAddr 26 (Go.Operand.tmp 124) (Go.Operand.const (Go.Value.int Go.IntKind.i64 6)), type := 0, pos := "ref.go:135", after := #[{ on := 15, ground := Go.Ground.data }], guard := none }) (v := .pointer (some ⟨b4, o4 + 6, none⟩)) (by kernel_rfl) (by kernel_rfl) (by kernel_rfl) (by kernel_rfl) (fun _ _ _ h => h) (Or.inl ⟨by kernel_rfl, fun W hW => by go_simp⟩) B0V.out ?_
  simp only [List.getElem_toArray, List.getElem_cons_zero, List.getElem_cons_succ, Act.put, List.setIfInBounds_toArray, List.set_cons_zero, List.set_cons_succ]
  refine till_load (i := 17) (oi := { dst := some 126, op := Go.Op.load 3 (Go.Operand.tmp 125), type := 3, pos := "ref.go:135", after := #[{ on := 16, ground := Go.Ground.data }], guard := none }) (v := .int .i64 (SZ : Int)) (by kernel_rfl) (by kernel_rfl) (by kernel_rfl) (by kernel_rfl) (fun _ _ _ h => h) (Or.inl ⟨by kernel_rfl, fun W hW => by have q0 := K17.out W hW; go_simp⟩) B0V.out ?_
  simp only [List.getElem_toArray, List.getElem_cons_zero, List.getElem_cons_succ, Act.put, List.setIfInBounds_toArray, List.set_cons_zero, List.set_cons_succ]
  refine till_load (i := 18) (oi := { dst := some 127, op := Go.Op.move (Go.Operand.tmp 13), type := 35, pos := "ref.go:135", after := #[], guard := none }) (v := .slice a5 m5 c5) (by kernel_rfl) (by kernel_rfl) (by kernel_rfl) (by kernel_rfl) (fun _ _ _ h => h) (Or.inl ⟨by kernel_rfl, fun W hW => by go_simp⟩) B0V.out ?_
  simp only [List.getElem_toArray, List.getElem_cons_zero, List.getElem_cons_succ, Act.put, List.setIfInBounds_toArray, List.set_cons_zero, List.set_cons_succ]
  refine till_load (i := 19) (oi := { dst := some 128, op := Go.Op.convert 35 9 (Go.Operand.tmp 127), type := 9, pos := "ref.go:135", after := #[{ on := 18, ground := Go.Ground.data }], guard := none }) (v := .string (spell L5)) (by kernel_rfl) (by kernel_rfl) (by kernel_rfl) (by kernel_rfl) (fun _ _ _ h => h) (Or.inl ⟨by kernel_rfl, fun W hW => by have q0 := Q5.out W hW; go_simp⟩) B0V.out ?_
  simp only [List.getElem_toArray, List.getElem_cons_zero, List.getElem_cons_succ, Act.put, List.setIfInBounds_toArray, List.set_cons_zero, List.set_cons_succ]
  refine till_load (i := 21) (oi := { dst := some 130, op := Go.Op.move (Go.Operand.tmp 15), type := 26, pos := "ref.go:135", after := #[], guard := none }) (v := .slice (some ⟨b6, o6, none⟩) 2 c6) (by kernel_rfl) (by kernel_rfl) (by kernel_rfl) (by kernel_rfl) (fun _ _ _ h => h) (Or.inl ⟨by kernel_rfl, fun W hW => by go_simp⟩) B0V.out ?_
  simp only [List.getElem_toArray, List.getElem_cons_zero, List.getElem_cons_succ, Act.put, List.setIfInBounds_toArray, List.set_cons_zero, List.set_cons_succ]
  refine till_load (i := 22) (oi := { dst := some 131, op := Go.Op.indexAddr 26 (Go.Operand.tmp 130) (Go.Operand.const (Go.Value.int Go.IntKind.i64 0)), type := 0, pos := "ref.go:135", after := #[{ on := 21, ground := Go.Ground.data }], guard := none }) (v := .pointer (some ⟨b6, o6, none⟩)) (by kernel_rfl) (by kernel_rfl) (by kernel_rfl) (by kernel_rfl) (fun _ _ _ h => h) (Or.inl ⟨by kernel_rfl, fun W hW => by go_simp⟩) B0V.out ?_
  simp only [List.getElem_toArray, List.getElem_cons_zero, List.getElem_cons_succ, Act.put, List.setIfInBounds_toArray, List.set_cons_zero, List.set_cons_succ]
  refine till_load (i := 23) (oi := { dst := some 132, op := Go.Op.load 3 (Go.Operand.tmp 131), type := 3, pos := "ref.go:135", after := #[{ on := 22, ground := Go.Ground.data }], guard := none }) (v := .int .i64 (PT : Int)) (by kernel_rfl) (by kernel_rfl) (by kernel_rfl) (by kernel_rfl) (fun _ _ _ h => h) (Or.inl ⟨by kernel_rfl, fun W hW => by have q0 := K23.out W hW; go_simp⟩) B0V.out ?_
  simp only [List.getElem_toArray, List.getElem_cons_zero, List.getElem_cons_succ, Act.put, List.setIfInBounds_toArray, List.set_cons_zero, List.set_cons_succ]
  refine till_load (i := 24) (oi := { dst := some 133, op := Go.Op.move (Go.Operand.tmp 17), type := 26, pos := "ref.go:135", after := #[], guard := none }) (v := .slice a7 m7 c7) (by kernel_rfl) (by kernel_rfl) (by kernel_rfl) (by kernel_rfl) (fun _ _ _ h => h) (Or.inl ⟨by kernel_rfl, fun W hW => by go_simp⟩) B0V.out ?_
  simp only [List.getElem_toArray, List.getElem_cons_zero, List.getElem_cons_succ, Act.put, List.setIfInBounds_toArray, List.set_cons_zero, List.set_cons_succ]
  refine till_load (i := 25) (oi := { dst := some 134, op := Go.Op.move (Go.Operand.tmp 19), type := 26, pos := "ref.go:135", after := #[], guard := none }) (v := .slice (some ⟨b8, o8, none⟩) 2 c8) (by kernel_rfl) (by kernel_rfl) (by kernel_rfl) (by kernel_rfl) (fun _ _ _ h => h) (Or.inl ⟨by kernel_rfl, fun W hW => by go_simp⟩) B0V.out ?_
  simp only [List.getElem_toArray, List.getElem_cons_zero, List.getElem_cons_succ, Act.put, List.setIfInBounds_toArray, List.set_cons_zero, List.set_cons_succ]
  refine till_load (i := 26) (oi := { dst := some 135, op := Go.Op.indexAddr 26 (Go.Operand.tmp 134) (Go.Operand.const (Go.Value.int Go.IntKind.i64 0)), type := 0, pos := "ref.go:135", after := #[{ on := 25, ground := Go.Ground.data }], guard := none }) (v := .pointer (some ⟨b8, o8, none⟩)) (by kernel_rfl) (by kernel_rfl) (by kernel_rfl) (by kernel_rfl) (fun _ _ _ h => h) (Or.inl ⟨by kernel_rfl, fun W hW => by go_simp⟩) B0V.out ?_
  simp only [List.getElem_toArray, List.getElem_cons_zero, List.getElem_cons_succ, Act.put, List.setIfInBounds_toArray, List.set_cons_zero, List.set_cons_succ]
  refine till_load (i := 27) (oi := { dst := some 136, op := Go.Op.load 3 (Go.Operand.tmp 135), type := 3, pos := "ref.go:135", after := #[{ on := 26, ground := Go.Ground.data }], guard := none }) (v := .int .i64 (TM : Int)) (by kernel_rfl) (by kernel_rfl) (by kernel_rfl) (by kernel_rfl) (fun _ _ _ h => h) (Or.inl ⟨by kernel_rfl, fun W hW => by have q0 := K27.out W hW; go_simp⟩) B0V.out ?_
  simp only [List.getElem_toArray, List.getElem_cons_zero, List.getElem_cons_succ, Act.put, List.setIfInBounds_toArray, List.set_cons_zero, List.set_cons_succ]
  refine till_load (i := 28) (oi := { dst := some 137, op := Go.Op.move (Go.Operand.tmp 19), type := 26, pos := "ref.go:135", after := #[], guard := none }) (v := .slice (some ⟨b8, o8, none⟩) 2 c8) (by kernel_rfl) (by kernel_rfl) (by kernel_rfl) (by kernel_rfl) (fun _ _ _ h => h) (Or.inl ⟨by kernel_rfl, fun W hW => by go_simp⟩) B0V.out ?_
  simp only [List.getElem_toArray, List.getElem_cons_zero, List.getElem_cons_succ, Act.put, List.setIfInBounds_toArray, List.set_cons_zero, List.set_cons_succ]
  refine till_load (i := 29) (oi := { dst := some 138, op := Go.Op.indexAddr 26 (Go.Operand.tmp 137) (Go.Operand.const (Go.Value.int Go.IntKind.i64 1)), type := 0, pos := "ref.go:135", after := #[{ on := 28, ground := Go.Ground.data }], guard := none }) (v := .pointer (some ⟨b8, o8 + 1, none⟩)) (by kernel_rfl) (by kernel_rfl) (by kernel_rfl) (by kernel_rfl) (fun _ _ _ h => h) (Or.inl ⟨by kernel_rfl, fun W hW => by go_simp⟩) B0V.out ?_
  simp only [List.getElem_toArray, List.getElem_cons_zero, List.getElem_cons_succ, Act.put, List.setIfInBounds_toArray, List.set_cons_zero, List.set_cons_succ]
  refine till_load (i := 30) (oi := { dst := some 139, op := Go.Op.load 3 (Go.Operand.tmp 138), type := 3, pos := "ref.go:135", after := #[{ on := 29, ground := Go.Ground.data }], guard := none }) (v := .int .i64 (DY : Int)) (by kernel_rfl) (by kernel_rfl) (by kernel_rfl) (by kernel_rfl) (fun _ _ _ h => h) (Or.inl ⟨by kernel_rfl, fun W hW => by have q0 := K30.out W hW; go_simp⟩) B0V.out ?_
  simp only [List.getElem_toArray, List.getElem_cons_zero, List.getElem_cons_succ, Act.put, List.setIfInBounds_toArray, List.set_cons_zero, List.set_cons_succ]
  have BW := B0V
  obtain ⟨X, HX⟩ : ∃ X : Cx, Hid ((⟨⟨K, I0, I1, I2, spell L2, spell L3, U0, U1, U2, B0, B1, B2, SZ, spell L5, PT, S7.map (fun x : Nat => (x : Int)), TM, DY⟩, a7, m7, c7⟩ : Cx) = X) := ⟨_, rfl⟩
  obtain ⟨fr0, Hfr⟩ : ∃ b, Hid (frm X.cm = b) := ⟨_, rfl⟩
  obtain ⟨CV, HCV⟩ : ∃ A, Hid ((#[.int .i64 (K : Int), .int .i64 (I0 : Int), .int .i64 (I1 : Int), .int .i64 (I2 : Int), .string (spell L2), .string (spell L3), .int .i64 (U0 : Int), .int .i64 (U1 : Int), .int .i64 (U2 : Int), .int .i64 (B0 : Int), .int .i64 (B1 : Int), .int .i64 (B2 : Int), .int .i64 (SZ : Int), .string (spell L5), .int .i64 (PT : Int), .slice a7 m7 c7, .int .i64 (TM : Int), .int .i64 (DY : Int)] : Array Value) = A) := ⟨_, rfl⟩
  have HCA : Hid (CV = (encX X).toArray) := by rw [← HCV.out, ← HX.out]; rfl
  have cv18 : CV.size = 18 := encX_sz HCA.out
  have CA1 : Hid (CV.all (·.oneCell') = true) := encX_all HCA.out
  have HSZ : Hid (X.cm.bu.size ≤ 281474976710656 ∧ X.cm.ke.size ≤ 281474976710656 ∧ X.cm.et.size ≤ 281474976710656) := by
    rw [← HX.out]
    show (spell L2).size ≤ 281474976710656 ∧ (spell L3).size ≤ 281474976710656 ∧ (spell L5).size ≤ 281474976710656
    exact ⟨by rw [spell_sz, ← LN.out.1]; have := M2.out; omega, by rw [spell_sz, ← LN.out.2.1]; have := M3.out; omega, by rw [spell_sz, ← LN.out.2.2]; have := M5.out; omega⟩
  refine till_two (i := 5) (j := 32) (by kernel_rfl) ?_ ?_
  · refine ⟨{ dst := some 114, op := Go.Op.call { callee := Go.Callee.value (Go.Operand.func 45), args := #[Go.Operand.tmp 113], argTypes := #[26] }, type := 23, pos := "ref.go:135", after := #[{ on := 4, ground := Go.Ground.data }], guard := none }, by kernel_rfl, fun KK hK => ?_⟩
    rw [if_pos (by kernel_rfl)]
    go_simp
    have IJ := show Hid (Irow V 0 _ _ _) from J1.out V BW.out
    go_wp2_with (go_at_call 45; refine (id_n (X := (I0 : Int)) (Y := (I1 : Int)) (Z := (I2 : Int)) IJ (by omega) (show Hid _ from rfl) (show Hid _ from rfl) (show Hid _ from rfl)).mono ?_; rintro e u0 ⟨rfl, H⟩)
    have BWn : Hid (Below V.heap.size V u0) := BW.out.trans (H.out.mono BW.out.size)
    skip
    refine hK.out _ _ BWn.out (fun _ => ?_)
    clear hK KK H IJ BW
    have BW := BWn
    clear BWn
    try simp only [List.getElem_toArray, List.getElem_cons_zero, List.getElem_cons_succ, Act.put, List.setIfInBounds_toArray, List.set_cons_zero, List.set_cons_succ]
    refine till_two (i := 11) (j := 32) (by kernel_rfl) ?_ ?_
    · refine ⟨{ dst := some 120, op := Go.Op.call { callee := Go.Callee.value (Go.Operand.func 45), args := #[Go.Operand.tmp 119], argTypes := #[26] }, type := 23, pos := "ref.go:135", after := #[{ on := 10, ground := Go.Ground.data }, { on := 5, ground := Go.Ground.chain }], guard := none }, by kernel_rfl, fun KK hK => ?_⟩
      rw [if_pos (by kernel_rfl)]
      go_simp
      have IJ := show Hid (Irow u0 0 _ _ _) from J4.out u0 BW.out
      go_wp2_with (go_at_call 45; refine (id_n (X := (U0 : Int)) (Y := (U1 : Int)) (Z := (U2 : Int)) IJ (by omega) (show Hid _ from rfl) (show Hid _ from rfl) (show Hid _ from rfl)).mono ?_; rintro e u1 ⟨rfl, H⟩)
      have BWn : Hid (Below V.heap.size V u1) := BW.out.trans (H.out.mono BW.out.size)
      skip
      refine hK.out _ _ BWn.out (fun _ => ?_)
      clear hK KK H IJ BW
      have BW := BWn
      clear BWn
      try simp only [List.getElem_toArray, List.getElem_cons_zero, List.getElem_cons_succ, Act.put, List.setIfInBounds_toArray, List.set_cons_zero, List.set_cons_succ]
      refine till_two (i := 14) (j := 32) (by kernel_rfl) ?_ ?_
      · refine ⟨{ dst := some 123, op := Go.Op.call { callee := Go.Callee.value (Go.Operand.func 45), args := #[Go.Operand.tmp 122], argTypes := #[26] }, type := 23, pos := "ref.go:135", after := #[{ on := 13, ground := Go.Ground.data }, { on := 11, ground := Go.Ground.chain }], guard := none }, by kernel_rfl, fun KK hK => ?_⟩
        rw [if_pos (by kernel_rfl)]
        go_simp
        have IJ := show Hid (Irow u1 0 _ _ _) from J5.out u1 BW.out
        go_wp2_with (go_at_call 45; refine (id_n (X := (B0 : Int)) (Y := (B1 : Int)) (Z := (B2 : Int)) IJ (by omega) (show Hid _ from rfl) (show Hid _ from rfl) (show Hid _ from rfl)).mono ?_; rintro e u2 ⟨rfl, H⟩)
        have BWn : Hid (Below V.heap.size V u2) := BW.out.trans (H.out.mono BW.out.size)
        skip
        refine hK.out _ _ BWn.out (fun _ => ?_)
        clear hK KK H IJ BW
        have BW := BWn
        clear BWn
        try simp only [List.getElem_toArray, List.getElem_cons_zero, List.getElem_cons_succ, Act.put, List.setIfInBounds_toArray, List.set_cons_zero, List.set_cons_succ]
        refine till_load (i := 20) (oi := { dst := some 129, op := Go.Op.build 25 #[(0, Go.Operand.tmp 123), (1, Go.Operand.tmp 126), (2, Go.Operand.tmp 128)], type := 25, pos := "ref.go:135", after := #[{ on := 14, ground := Go.Ground.data }, { on := 17, ground := Go.Ground.data }, { on := 19, ground := Go.Ground.data }], guard := none }) (v := .agg #[.int .i64 (B0 : Int), .int .i64 (B1 : Int), .int .i64 (B2 : Int), .int .i64 (SZ : Int), .string (spell L5)]) (by kernel_rfl) (by kernel_rfl) (by kernel_rfl) (by kernel_rfl) (fun _ _ _ h => h) (Or.inl ⟨by kernel_rfl, fun W hW => by go_simp⟩) BW.out ?_
        simp only [List.getElem_toArray, List.getElem_cons_zero, List.getElem_cons_succ, Act.put, List.setIfInBounds_toArray, List.set_cons_zero, List.set_cons_succ]
        refine till_load (i := 31) (oi := { dst := some 140, op := Go.Op.build 28 #[(0, Go.Operand.tmp 111), (1, Go.Operand.tmp 114), (2, Go.Operand.tmp 116), (3, Go.Operand.tmp 118), (4, Go.Operand.tmp 120), (5, Go.Operand.tmp 129), (6, Go.Operand.tmp 132), (7, Go.Operand.tmp 133), (8, Go.Operand.tmp 136), (9, Go.Operand.tmp 139)], type := 28, pos := "ref.go:135", after := #[{ on := 2, ground := Go.Ground.data }, { on := 5, ground := Go.Ground.data }, { on := 7, ground := Go.Ground.data }, { on := 9, ground := Go.Ground.data }, { on := 11, ground := Go.Ground.data }, { on := 20, ground := Go.Ground.data }, { on := 23, ground := Go.Ground.data }, { on := 24, ground := Go.Ground.data }, { on := 27, ground := Go.Ground.data }, { on := 30, ground := Go.Ground.data }], guard := none }) (v := .agg CV) (by kernel_rfl) (by kernel_rfl) (by kernel_rfl) (by kernel_rfl) (fun _ _ _ h => h) (Or.inl ⟨by kernel_rfl, fun W hW => by rw [← HCV.out]; go_simp⟩) BW.out ?_
        simp only [List.getElem_toArray, List.getElem_cons_zero, List.getElem_cons_succ, Act.put, List.setIfInBounds_toArray, List.set_cons_zero, List.set_cons_succ]
        refine till_one (i := 32) (by kernel_rfl) (o := { dst := some 21, op := Go.Op.alloc 28, type := 0, pos := "ref.go:135", after := #[], guard := none }) (by kernel_rfl) (fun KK hK => ?_)
        rw [if_pos (by kernel_rfl)]
        obtain ⟨gc, Hgc⟩ : ∃ gc, Hid (u2.heap.size = gc) := ⟨_, rfl⟩
        obtain ⟨ua, Hua⟩ : ∃ ua, Hid (u2.alloc (.cells #[.int .i64 0, .int .i64 0, .int .i64 0, .int .i64 0, .string ⟨#[]⟩, .string ⟨#[]⟩, .int .i64 0, .int .i64 0, .int .i64 0, .int .i64 0, .int .i64 0, .int .i64 0, .int .i64 0, .string ⟨#[]⟩, .int .i64 0, .slice none 0 0, .int .i64 0, .int .i64 0] 28) = ua) := ⟨_, rfl⟩
        have KC : Hid (ua.heap[gc]? = some (.cells #[.int .i64 0, .int .i64 0, .int .i64 0, .int .i64 0, .string ⟨#[]⟩, .string ⟨#[]⟩, .int .i64 0, .int .i64 0, .int .i64 0, .int .i64 0, .int .i64 0, .int .i64 0, .int .i64 0, .string ⟨#[]⟩, .int .i64 0, .slice none 0 0, .int .i64 0, .int .i64 0] 28 (0, 0)) ∧ V.heap.size ≤ gc) := ⟨by rw [← Hua.out, ← Hgc.out]; exact heap_alloc_new u2 _, by have := BW.out.size; have := Hgc.out; omega⟩
        have BWn : Hid (Below V.heap.size V ua) := by rw [← Hua.out]; exact BW.out.alloc BW.out.size _
        go_simp
        rw [Hua.out, Hgc.out]
        refine hK.out _ _ BWn.out (fun _ => ?_)
        clear hK KK BW Hua Hgc
        have BW := BWn
        clear BWn
        try simp only [List.getElem_toArray, List.getElem_cons_zero, List.getElem_cons_succ, Act.put, List.setIfInBounds_toArray, List.set_cons_zero, List.set_cons_succ]
        refine till_one (i := 33) (by kernel_rfl) (o := { dst := none, op := Go.Op.store 28 (Go.Operand.tmp 21) (Go.Operand.tmp 140), type := 0, pos := "ref.go:135", after := #[{ on := 32, ground := Go.Ground.data }, { on := 31, ground := Go.Ground.data }, { on := 14, ground := Go.Ground.chain }, { on := 0, ground := Go.Ground.phase }, { on := 1, ground := Go.Ground.phase }, { on := 2, ground := Go.Ground.phase }, { on := 3, ground := Go.Ground.phase }, { on := 4, ground := Go.Ground.phase }, { on := 5, ground := Go.Ground.phase }, { on := 6, ground := Go.Ground.phase }, { on := 7, ground := Go.Ground.phase }, { on := 8, ground := Go.Ground.phase }, { on := 9, ground := Go.Ground.phase }, { on := 10, ground := Go.Ground.phase }, { on := 11, ground := Go.Ground.phase }, { on := 12, ground := Go.Ground.phase }, { on := 13, ground := Go.Ground.phase }, { on := 14, ground := Go.Ground.phase }, { on := 15, ground := Go.Ground.phase }, { on := 16, ground := Go.Ground.phase }, { on := 17, ground := Go.Ground.phase }, { on := 18, ground := Go.Ground.phase }, { on := 19, ground := Go.Ground.phase }, { on := 20, ground := Go.Ground.phase }, { on := 21, ground := Go.Ground.phase }, { on := 22, ground := Go.Ground.phase }, { on := 23, ground := Go.Ground.phase }, { on := 24, ground := Go.Ground.phase }, { on := 25, ground := Go.Ground.phase }, { on := 26, ground := Go.Ground.phase }, { on := 27, ground := Go.Ground.phase }, { on := 28, ground := Go.Ground.phase }, { on := 29, ground := Go.Ground.phase }, { on := 30, ground := Go.Ground.phase }, { on := 31, ground := Go.Ground.phase }, { on := 32, ground := Go.Ground.phase }], guard := none }) (by kernel_rfl) (fun KK hK => ?_)
        rw [if_pos (by kernel_rfl)]
        obtain ⟨vf, Hvf⟩ : ∃ vf, Hid (ua.setRow gc CV = vf) := ⟨_, rfl⟩
        have KV : Hid (vf.heap[gc]? = some (.cells CV 28 (0, 0))) := by rw [← Hvf.out]; exact setRow_heap _ _ _ _ _ _ KC.out.1
        have GCV : Hid (V.heap.size ≤ gc) := KC.out.2
        have BF : Hid (Below V.heap.size V vf) := by rw [← Hvf.out]; exact below_setRow BW.out KC.out.2 _
        refine wp_store_row 28 (.tmp 21) (.tmp 140) (by rfl) gc CV (by rfl) (by rfl) 28 _ KC.out.1 (info28 cv18) (by rw [cv18]; rfl) CA1.out ?_
        rw [Hvf.out]
        refine hK.out _ _ BF.out (fun _ => ?_)
        clear hK KK BW KC Hvf
        try simp only [List.getElem_toArray, List.getElem_cons_zero, List.getElem_cons_succ, Act.put, List.setIfInBounds_toArray, List.set_cons_zero, List.set_cons_succ]
        refine till_done (by kernel_rfl) ?_ _
        show (Exit.then _ _) .normal _ _
        clear K2 K17 K23 K27 K30 Q2 Q3 Q5 J1 J4 J5 n1 n4 n1i n4i M2 M3 M5 LN hc1 hc4 hc6 hc7 hc8 h16 i16 HCV
        have IV : Hid (Irow vf 0 X.pa X.pn X.cm.ps) := by rw [← HX.out]; exact ((V7.out.below BF.out).mono (Nat.zero_le _)).ir
        have KZ : Hid (vf.heap[g2]? = some (.cells #[.int .i64 0, .int .i64 0, .int .i64 0, .int .i64 0, .string ⟨#[]⟩, .string ⟨#[]⟩, .int .i64 0, .int .i64 0, .int .i64 0, .int .i64 0, .int .i64 0, .int .i64 0, .int .i64 0, .string ⟨#[]⟩, .int .i64 0, .slice none 0 0, .int .i64 0, .int .i64 0] 28 (0, 0))) := (BF.out.block g2 (Array.getElem?_eq_some_iff.1 SV.out.k2).1).trans SV.out.k2
        have BZ : Hid (Below w.heap.size w vf) := SV.out.bel.trans (BF.out.mono SV.out.bel.size)
        have NG : Hid (gc ≠ g2) := fun e => by have h1 := KV.out; rw [e, KZ.out] at h1; simp only [Option.some.injEq, Obj.cells.injEq] at h1; have h2 := GCV.out; have h3 := (Array.getElem?_eq_some_iff.1 SV.out.k2).1; omega
        cases fr0
        · go_upto_region 16 with first
            | (refine wpList_load_row (by rfl) 28 (.tmp 21) (by rfl) gc (by kernel_rfl) 28 CV (0, 0) _ KV.out Tryd.underlying28 rfl (info28 cv18) ?_)
            | (go_at_call 14; refine (inf_x HCA IV HSZ).mono ?_; rintro e wz ⟨rfl, HZ⟩; rw [Hfr.out])
          have S : Hid (wz.heap[g2]? = some (.cells #[.int .i64 0, .int .i64 0, .int .i64 0, .int .i64 0, .string ⟨#[]⟩, .string ⟨#[]⟩, .int .i64 0, .int .i64 0, .int .i64 0, .int .i64 0, .int .i64 0, .int .i64 0, .int .i64 0, .string ⟨#[]⟩, .int .i64 0, .slice none 0 0, .int .i64 0, .int .i64 0] 28 (0, 0)) ∧ Below w.heap.size w wz) := ⟨(HZ.out.block g2 (Array.getElem?_eq_some_iff.1 KZ.out).1).trans KZ.out, BZ.out.trans (HZ.out.mono BZ.out.size)⟩
          have K2 : Hid (wz.heap[g2]? = some (.cells #[.int .i64 0, .int .i64 0, .int .i64 0, .int .i64 0, .string ⟨#[]⟩, .string ⟨#[]⟩, .int .i64 0, .int .i64 0, .int .i64 0, .int .i64 0, .int .i64 0, .int .i64 0, .int .i64 0, .string ⟨#[]⟩, .int .i64 0, .slice none 0 0, .int .i64 0, .int .i64 0] 28 (0, 0))) := S.out.1
          have FB : Hid (Below w.heap.size w (wz.setRow g2 #[.int .i64 0, .int .i64 0, .int .i64 0, .int .i64 0, .string ⟨#[]⟩, .string ⟨#[]⟩, .int .i64 0, .int .i64 0, .int .i64 0, .int .i64 0, .int .i64 0, .int .i64 0, .int .i64 0, .string ⟨#[]⟩, .int .i64 0, .slice none 0 0, .int .i64 0, .int .i64 0])) := below_setRow S.out.2 (by have := SV.out.e2; omega) _
          refine wp_region_lit ?_
          refine wpList_build (by rfl) 28 #[] (by rfl) (by kernel_rfl) ?_
          refine wpList_store_row (by rfl) 28 (.tmp 2) (.tmp 144) (by rfl) g2 #[.int .i64 0, .int .i64 0, .int .i64 0, .int .i64 0, .string ⟨#[]⟩, .string ⟨#[]⟩, .int .i64 0, .int .i64 0, .int .i64 0, .int .i64 0, .int .i64 0, .int .i64 0, .int .i64 0, .string ⟨#[]⟩, .int .i64 0, .slice none 0 0, .int .i64 0, .int .i64 0] (by kernel_rfl) (by kernel_rfl) 28 _ K2.out (by kernel_rfl) (by rfl) zz_one ?_
          refine wpList_plain (by rfl) (fun KK hKK => ?_)
          refine hKK _ _ ?_
          show (Exit.then _ _) .normal _ _
          rename_i hret
          refine hret _ _ (wp_ret ?_)
          show bodyPost Tryd.prog Tryd.f18 (fun e w' => GtD w w' l e) .ret _ _
          refine bodyPost_ret (res15 Tryd.results18 _ _ g2 #[.int .i64 0, .int .i64 0, .int .i64 0, .int .i64 0, .string ⟨#[]⟩, .string ⟨#[]⟩, .int .i64 0, .int .i64 0, .int .i64 0, .int .i64 0, .int .i64 0, .int .i64 0, .int .i64 0, .string ⟨#[]⟩, .int .i64 0, .slice none 0 0, .int .i64 0, .int .i64 0] (.bool false) (by kernel_rfl) (by kernel_rfl) (setRow_heap _ _ _ _ _ _ K2.out) rfl) rfl ?_
          refine .inl ⟨?_, rfl, FB.out⟩
          rw [RG.out]
          exact if_neg (fun h => by have h2 := Hfr.out; rw [← HX.out] at h2; exact absurd (h2.symm.trans h) (by decide))
        · go_upto_region 17 with first
            | (refine wpList_load_row (by rfl) 28 (.tmp 21) (by rfl) gc (by kernel_rfl) 28 CV (0, 0) _ KV.out Tryd.underlying28 rfl (info28 cv18) ?_)
            | (go_at_call 14; refine (inf_x HCA IV HSZ).mono ?_; rintro e wz ⟨rfl, HZ⟩; rw [Hfr.out])
          have K2 : Hid (wz.heap[g2]? = some (.cells #[.int .i64 0, .int .i64 0, .int .i64 0, .int .i64 0, .string ⟨#[]⟩, .string ⟨#[]⟩, .int .i64 0, .int .i64 0, .int .i64 0, .int .i64 0, .int .i64 0, .int .i64 0, .int .i64 0, .string ⟨#[]⟩, .int .i64 0, .slice none 0 0, .int .i64 0, .int .i64 0] 28 (0, 0))) := (HZ.out.block g2 (Array.getElem?_eq_some_iff.1 KZ.out).1).trans KZ.out
          have KG : Hid (wz.heap[gc]? = some (.cells CV 28 (0, 0))) := (HZ.out.block gc (Array.getElem?_eq_some_iff.1 KV.out).1).trans KV.out
          have FB : Hid (Below w.heap.size w (wz.setRow g2 CV)) := below_setRow (BZ.out.trans (HZ.out.mono BZ.out.size)) (by have := SV.out.e2; omega) _
          have FI : Hid (Iro (wz.setRow g2 CV) w.heap.size a7 m7 c7 (S7.map fun x : Nat => (x : Int))) := (((V7.out.below BF.out).below HZ.out).setRow (by have := SV.out.e2; omega) CV).mono (by omega)
          refine wp_region_lit ?_
          refine wpList_load_row (by rfl) 28 (.tmp 21) (by rfl) gc (by kernel_rfl) 28 CV (0, 0) _ KG.out Tryd.underlying28 rfl (info28 cv18) ?_
          refine wpList_store_row (by rfl) 28 (.tmp 2) (.tmp 145) (by rfl) g2 CV (by kernel_rfl) (by kernel_rfl) 28 _ K2.out (info28 cv18) (by rw [cv18]; rfl) CA1.out ?_
          refine wpList_plain (by rfl) (fun KK hKK => ?_)
          refine hKK _ _ ?_
          show (Exit.then _ _) .normal _ _
          rename_i hret
          refine hret _ _ (wp_ret ?_)
          show bodyPost Tryd.prog Tryd.f18 (fun e w' => GtD w w' l e) .ret _ _
          refine bodyPost_ret (res15 Tryd.results18 _ _ g2 CV (.bool true) (by kernel_rfl) (by kernel_rfl) (setRow_heap _ _ _ _ _ _ K2.out) cv18) rfl ?_
          refine .inr ⟨⟨K, I0, I1, I2, spell L2, spell L3, U0, U1, U2, B0, B1, B2, SZ, spell L5, PT, S7, TM, DY⟩, a7, m7, c7, ?_, by rw [HCA.out, ← HX.out]; rfl, FB.out, FI.out.ir, FI.out.ow⟩
          rw [RG.out]
          exact if_pos (by have h2 := Hfr.out; rw [← HX.out] at h2; exact h2)
      · refine ⟨{ dst := some 21, op := Go.Op.alloc 28, type := 0, pos := "ref.go:135", after := #[], guard := none }, by kernel_rfl, fun KK hK => ?_⟩
        rw [if_pos (by kernel_rfl)]
        obtain ⟨gc, Hgc⟩ : ∃ gc, Hid (u1.heap.size = gc) := ⟨_, rfl⟩
        obtain ⟨ua, Hua⟩ : ∃ ua, Hid (u1.alloc (.cells #[.int .i64 0, .int .i64 0, .int .i64 0, .int .i64 0, .string ⟨#[]⟩, .string ⟨#[]⟩, .int .i64 0, .int .i64 0, .int .i64 0, .int .i64 0, .int .i64 0, .int .i64 0, .int .i64 0, .string ⟨#[]⟩, .int .i64 0, .slice none 0 0, .int .i64 0, .int .i64 0] 28) = ua) := ⟨_, rfl⟩
        have KC : Hid (ua.heap[gc]? = some (.cells #[.int .i64 0, .int .i64 0, .int .i64 0, .int .i64 0, .string ⟨#[]⟩, .string ⟨#[]⟩, .int .i64 0, .int .i64 0, .int .i64 0, .int .i64 0, .int .i64 0, .int .i64 0, .int .i64 0, .string ⟨#[]⟩, .int .i64 0, .slice none 0 0, .int .i64 0, .int .i64 0] 28 (0, 0)) ∧ V.heap.size ≤ gc) := ⟨by rw [← Hua.out, ← Hgc.out]; exact heap_alloc_new u1 _, by have := BW.out.size; have := Hgc.out; omega⟩
        have BWn : Hid (Below V.heap.size V ua) := by rw [← Hua.out]; exact BW.out.alloc BW.out.size _
        go_simp
        rw [Hua.out, Hgc.out]
        refine hK.out _ _ BWn.out (fun _ => ?_)
        clear hK KK BW Hua Hgc
        have BW := BWn
        clear BWn
        try simp only [List.getElem_toArray, List.getElem_cons_zero, List.getElem_cons_succ, Act.put, List.setIfInBounds_toArray, List.set_cons_zero, List.set_cons_succ]
        refine till_one (i := 14) (by kernel_rfl) (o := { dst := some 123, op := Go.Op.call { callee := Go.Callee.value (Go.Operand.func 45), args := #[Go.Operand.tmp 122], argTypes := #[26] }, type := 23, pos := "ref.go:135", after := #[{ on := 13, ground := Go.Ground.data }, { on := 11, ground := Go.Ground.chain }], guard := none }) (by kernel_rfl) (fun KK hK => ?_)
        rw [if_pos (by kernel_rfl)]
        go_simp
        have IJ := show Hid (Irow ua 0 _ _ _) from J5.out ua BW.out
        go_wp2_with (go_at_call 45; refine (id_n (X := (B0 : Int)) (Y := (B1 : Int)) (Z := (B2 : Int)) IJ (by omega) (show Hid _ from rfl) (show Hid _ from rfl) (show Hid _ from rfl)).mono ?_; rintro e u2 ⟨rfl, H⟩)
        have BWn : Hid (Below V.heap.size V u2) := BW.out.trans (H.out.mono BW.out.size)
        have KCn : Hid (u2.heap[gc]? = some (.cells #[.int .i64 0, .int .i64 0, .int .i64 0, .int .i64 0, .string ⟨#[]⟩, .string ⟨#[]⟩, .int .i64 0, .int .i64 0, .int .i64 0, .int .i64 0, .int .i64 0, .int .i64 0, .int .i64 0, .string ⟨#[]⟩, .int .i64 0, .slice none 0 0, .int .i64 0, .int .i64 0] 28 (0, 0)) ∧ V.heap.size ≤ gc) := ⟨(H.out.block gc (Array.getElem?_eq_some_iff.1 KC.out.1).1).trans KC.out.1, KC.out.2⟩
        clear KC
        have KC := KCn
        clear KCn
        refine hK.out _ _ BWn.out (fun _ => ?_)
        clear hK KK H IJ BW
        have BW := BWn
        clear BWn
        try simp only [List.getElem_toArray, List.getElem_cons_zero, List.getElem_cons_succ, Act.put, List.setIfInBounds_toArray, List.set_cons_zero, List.set_cons_succ]
        refine till_load (i := 20) (oi := { dst := some 129, op := Go.Op.build 25 #[(0, Go.Operand.tmp 123), (1, Go.Operand.tmp 126), (2, Go.Operand.tmp 128)], type := 25, pos := "ref.go:135", after := #[{ on := 14, ground := Go.Ground.data }, { on := 17, ground := Go.Ground.data }, { on := 19, ground := Go.Ground.data }], guard := none }) (v := .agg #[.int .i64 (B0 : Int), .int .i64 (B1 : Int), .int .i64 (B2 : Int), .int .i64 (SZ : Int), .string (spell L5)]) (by kernel_rfl) (by kernel_rfl) (by kernel_rfl) (by kernel_rfl) (fun _ _ _ h => h) (Or.inl ⟨by kernel_rfl, fun W hW => by go_simp⟩) BW.out ?_
        simp only [List.getElem_toArray, List.getElem_cons_zero, List.getElem_cons_succ, Act.put, List.setIfInBounds_toArray, List.set_cons_zero, List.set_cons_succ]
        refine till_load (i := 31) (oi := { dst := some 140, op := Go.Op.build 28 #[(0, Go.Operand.tmp 111), (1, Go.Operand.tmp 114), (2, Go.Operand.tmp 116), (3, Go.Operand.tmp 118), (4, Go.Operand.tmp 120), (5, Go.Operand.tmp 129), (6, Go.Operand.tmp 132), (7, Go.Operand.tmp 133), (8, Go.Operand.tmp 136), (9, Go.Operand.tmp 139)], type := 28, pos := "ref.go:135", after := #[{ on := 2, ground := Go.Ground.data }, { on := 5, ground := Go.Ground.data }, { on := 7, ground := Go.Ground.data }, { on := 9, ground := Go.Ground.data }, { on := 11, ground := Go.Ground.data }, { on := 20, ground := Go.Ground.data }, { on := 23, ground := Go.Ground.data }, { on := 24, ground := Go.Ground.data }, { on := 27, ground := Go.Ground.data }, { on := 30, ground := Go.Ground.data }], guard := none }) (v := .agg CV) (by kernel_rfl) (by kernel_rfl) (by kernel_rfl) (by kernel_rfl) (fun _ _ _ h => h) (Or.inl ⟨by kernel_rfl, fun W hW => by rw [← HCV.out]; go_simp⟩) BW.out ?_
        simp only [List.getElem_toArray, List.getElem_cons_zero, List.getElem_cons_succ, Act.put, List.setIfInBounds_toArray, List.set_cons_zero, List.set_cons_succ]
        refine till_one (i := 33) (by kernel_rfl) (o := { dst := none, op := Go.Op.store 28 (Go.Operand.tmp 21) (Go.Operand.tmp 140), type := 0, pos := "ref.go:135", after := #[{ on := 32, ground := Go.Ground.data }, { on := 31, ground := Go.Ground.data }, { on := 14, ground := Go.Ground.chain }, { on := 0, ground := Go.Ground.phase }, { on := 1, ground := Go.Ground.phase }, { on := 2, ground := Go.Ground.phase }, { on := 3, ground := Go.Ground.phase }, { on := 4, ground := Go.Ground.phase }, { on := 5, ground := Go.Ground.phase }, { on := 6, ground := Go.Ground.phase }, { on := 7, ground := Go.Ground.phase }, { on := 8, ground := Go.Ground.phase }, { on := 9, ground := Go.Ground.phase }, { on := 10, ground := Go.Ground.phase }, { on := 11, ground := Go.Ground.phase }, { on := 12, ground := Go.Ground.phase }, { on := 13, ground := Go.Ground.phase }, { on := 14, ground := Go.Ground.phase }, { on := 15, ground := Go.Ground.phase }, { on := 16, ground := Go.Ground.phase }, { on := 17, ground := Go.Ground.phase }, { on := 18, ground := Go.Ground.phase }, { on := 19, ground := Go.Ground.phase }, { on := 20, ground := Go.Ground.phase }, { on := 21, ground := Go.Ground.phase }, { on := 22, ground := Go.Ground.phase }, { on := 23, ground := Go.Ground.phase }, { on := 24, ground := Go.Ground.phase }, { on := 25, ground := Go.Ground.phase }, { on := 26, ground := Go.Ground.phase }, { on := 27, ground := Go.Ground.phase }, { on := 28, ground := Go.Ground.phase }, { on := 29, ground := Go.Ground.phase }, { on := 30, ground := Go.Ground.phase }, { on := 31, ground := Go.Ground.phase }, { on := 32, ground := Go.Ground.phase }], guard := none }) (by kernel_rfl) (fun KK hK => ?_)
        rw [if_pos (by kernel_rfl)]
        obtain ⟨vf, Hvf⟩ : ∃ vf, Hid (u2.setRow gc CV = vf) := ⟨_, rfl⟩
        have KV : Hid (vf.heap[gc]? = some (.cells CV 28 (0, 0))) := by rw [← Hvf.out]; exact setRow_heap _ _ _ _ _ _ KC.out.1
        have GCV : Hid (V.heap.size ≤ gc) := KC.out.2
        have BF : Hid (Below V.heap.size V vf) := by rw [← Hvf.out]; exact below_setRow BW.out KC.out.2 _
        refine wp_store_row 28 (.tmp 21) (.tmp 140) (by rfl) gc CV (by rfl) (by rfl) 28 _ KC.out.1 (info28 cv18) (by rw [cv18]; rfl) CA1.out ?_
        rw [Hvf.out]
        refine hK.out _ _ BF.out (fun _ => ?_)
        clear hK KK BW KC Hvf
        try simp only [List.getElem_toArray, List.getElem_cons_zero, List.getElem_cons_succ, Act.put, List.setIfInBounds_toArray, List.set_cons_zero, List.set_cons_succ]
        refine till_done (by kernel_rfl) ?_ _
        show (Exit.then _ _) .normal _ _
        clear K2 K17 K23 K27 K30 Q2 Q3 Q5 J1 J4 J5 n1 n4 n1i n4i M2 M3 M5 LN hc1 hc4 hc6 hc7 hc8 h16 i16 HCV
        have IV : Hid (Irow vf 0 X.pa X.pn X.cm.ps) := by rw [← HX.out]; exact ((V7.out.below BF.out).mono (Nat.zero_le _)).ir
        have KZ : Hid (vf.heap[g2]? = some (.cells #[.int .i64 0, .int .i64 0, .int .i64 0, .int .i64 0, .string ⟨#[]⟩, .string ⟨#[]⟩, .int .i64 0, .int .i64 0, .int .i64 0, .int .i64 0, .int .i64 0, .int .i64 0, .int .i64 0, .string ⟨#[]⟩, .int .i64 0, .slice none 0 0, .int .i64 0, .int .i64 0] 28 (0, 0))) := (BF.out.block g2 (Array.getElem?_eq_some_iff.1 SV.out.k2).1).trans SV.out.k2
        have BZ : Hid (Below w.heap.size w vf) := SV.out.bel.trans (BF.out.mono SV.out.bel.size)
        have NG : Hid (gc ≠ g2) := fun e => by have h1 := KV.out; rw [e, KZ.out] at h1; simp only [Option.some.injEq, Obj.cells.injEq] at h1; have h2 := GCV.out; have h3 := (Array.getElem?_eq_some_iff.1 SV.out.k2).1; omega
        cases fr0
        · go_upto_region 16 with first
            | (refine wpList_load_row (by rfl) 28 (.tmp 21) (by rfl) gc (by kernel_rfl) 28 CV (0, 0) _ KV.out Tryd.underlying28 rfl (info28 cv18) ?_)
            | (go_at_call 14; refine (inf_x HCA IV HSZ).mono ?_; rintro e wz ⟨rfl, HZ⟩; rw [Hfr.out])
          have S : Hid (wz.heap[g2]? = some (.cells #[.int .i64 0, .int .i64 0, .int .i64 0, .int .i64 0, .string ⟨#[]⟩, .string ⟨#[]⟩, .int .i64 0, .int .i64 0, .int .i64 0, .int .i64 0, .int .i64 0, .int .i64 0, .int .i64 0, .string ⟨#[]⟩, .int .i64 0, .slice none 0 0, .int .i64 0, .int .i64 0] 28 (0, 0)) ∧ Below w.heap.size w wz) := ⟨(HZ.out.block g2 (Array.getElem?_eq_some_iff.1 KZ.out).1).trans KZ.out, BZ.out.trans (HZ.out.mono BZ.out.size)⟩
          have K2 : Hid (wz.heap[g2]? = some (.cells #[.int .i64 0, .int .i64 0, .int .i64 0, .int .i64 0, .string ⟨#[]⟩, .string ⟨#[]⟩, .int .i64 0, .int .i64 0, .int .i64 0, .int .i64 0, .int .i64 0, .int .i64 0, .int .i64 0, .string ⟨#[]⟩, .int .i64 0, .slice none 0 0, .int .i64 0, .int .i64 0] 28 (0, 0))) := S.out.1
          have FB : Hid (Below w.heap.size w (wz.setRow g2 #[.int .i64 0, .int .i64 0, .int .i64 0, .int .i64 0, .string ⟨#[]⟩, .string ⟨#[]⟩, .int .i64 0, .int .i64 0, .int .i64 0, .int .i64 0, .int .i64 0, .int .i64 0, .int .i64 0, .string ⟨#[]⟩, .int .i64 0, .slice none 0 0, .int .i64 0, .int .i64 0])) := below_setRow S.out.2 (by have := SV.out.e2; omega) _
          refine wp_region_lit ?_
          refine wpList_build (by rfl) 28 #[] (by rfl) (by kernel_rfl) ?_
          refine wpList_store_row (by rfl) 28 (.tmp 2) (.tmp 144) (by rfl) g2 #[.int .i64 0, .int .i64 0, .int .i64 0, .int .i64 0, .string ⟨#[]⟩, .string ⟨#[]⟩, .int .i64 0, .int .i64 0, .int .i64 0, .int .i64 0, .int .i64 0, .int .i64 0, .int .i64 0, .string ⟨#[]⟩, .int .i64 0, .slice none 0 0, .int .i64 0, .int .i64 0] (by kernel_rfl) (by kernel_rfl) 28 _ K2.out (by kernel_rfl) (by rfl) zz_one ?_
          refine wpList_plain (by rfl) (fun KK hKK => ?_)
          refine hKK _ _ ?_
          show (Exit.then _ _) .normal _ _
          rename_i hret
          refine hret _ _ (wp_ret ?_)
          show bodyPost Tryd.prog Tryd.f18 (fun e w' => GtD w w' l e) .ret _ _
          refine bodyPost_ret (res15 Tryd.results18 _ _ g2 #[.int .i64 0, .int .i64 0, .int .i64 0, .int .i64 0, .string ⟨#[]⟩, .string ⟨#[]⟩, .int .i64 0, .int .i64 0, .int .i64 0, .int .i64 0, .int .i64 0, .int .i64 0, .int .i64 0, .string ⟨#[]⟩, .int .i64 0, .slice none 0 0, .int .i64 0, .int .i64 0] (.bool false) (by kernel_rfl) (by kernel_rfl) (setRow_heap _ _ _ _ _ _ K2.out) rfl) rfl ?_
          refine .inl ⟨?_, rfl, FB.out⟩
          rw [RG.out]
          exact if_neg (fun h => by have h2 := Hfr.out; rw [← HX.out] at h2; exact absurd (h2.symm.trans h) (by decide))
        · go_upto_region 17 with first
            | (refine wpList_load_row (by rfl) 28 (.tmp 21) (by rfl) gc (by kernel_rfl) 28 CV (0, 0) _ KV.out Tryd.underlying28 rfl (info28 cv18) ?_)
            | (go_at_call 14; refine (inf_x HCA IV HSZ).mono ?_; rintro e wz ⟨rfl, HZ⟩; rw [Hfr.out])
          have K2 : Hid (wz.heap[g2]? = some (.cells #[.int .i64 0, .int .i64 0, .int .i64 0, .int .i64 0, .string ⟨#[]⟩, .string ⟨#[]⟩, .int .i64 0, .int .i64 0, .int .i64 0, .int .i64 0, .int .i64 0, .int .i64 0, .int .i64 0, .string ⟨#[]⟩, .int .i64 0, .slice none 0 0, .int .i64 0, .int .i64 0] 28 (0, 0))) := (HZ.out.block g2 (Array.getElem?_eq_some_iff.1 KZ.out).1).trans KZ.out
          have KG : Hid (wz.heap[gc]? = some (.cells CV 28 (0, 0))) := (HZ.out.block gc (Array.getElem?_eq_some_iff.1 KV.out).1).trans KV.out
          have FB : Hid (Below w.heap.size w (wz.setRow g2 CV)) := below_setRow (BZ.out.trans (HZ.out.mono BZ.out.size)) (by have := SV.out.e2; omega) _
          have FI : Hid (Iro (wz.setRow g2 CV) w.heap.size a7 m7 c7 (S7.map fun x : Nat => (x : Int))) := (((V7.out.below BF.out).below HZ.out).setRow (by have := SV.out.e2; omega) CV).mono (by omega)
          refine wp_region_lit ?_
          refine wpList_load_row (by rfl) 28 (.tmp 21) (by rfl) gc (by kernel_rfl) 28 CV (0, 0) _ KG.out Tryd.underlying28 rfl (info28 cv18) ?_
          refine wpList_store_row (by rfl) 28 (.tmp 2) (.tmp 145) (by rfl) g2 CV (by kernel_rfl) (by kernel_rfl) 28 _ K2.out (info28 cv18) (by rw [cv18]; rfl) CA1.out ?_
          refine wpList_plain (by rfl) (fun KK hKK => ?_)
          refine hKK _ _ ?_
          show (Exit.then _ _) .normal _ _
          rename_i hret
          refine hret _ _ (wp_ret ?_)
          show bodyPost Tryd.prog Tryd.f18 (fun e w' => GtD w w' l e) .ret _ _
          refine bodyPost_ret (res15 Tryd.results18 _ _ g2 CV (.bool true) (by kernel_rfl) (by kernel_rfl) (setRow_heap _ _ _ _ _ _ K2.out) cv18) rfl ?_
          refine .inr ⟨⟨K, I0, I1, I2, spell L2, spell L3, U0, U1, U2, B0, B1, B2, SZ, spell L5, PT, S7, TM, DY⟩, a7, m7, c7, ?_, by rw [HCA.out, ← HX.out]; rfl, FB.out, FI.out.ir, FI.out.ow⟩
          rw [RG.out]
          exact if_pos (by have h2 := Hfr.out; rw [← HX.out] at h2; exact h2)
    · refine ⟨{ dst := some 21, op := Go.Op.alloc 28, type := 0, pos := "ref.go:135", after := #[], guard := none }, by kernel_rfl, fun KK hK => ?_⟩
      rw [if_pos (by kernel_rfl)]
      obtain ⟨gc, Hgc⟩ : ∃ gc, Hid (u0.heap.size = gc) := ⟨_, rfl⟩
      obtain ⟨ua, Hua⟩ : ∃ ua, Hid (u0.alloc (.cells #[.int .i64 0, .int .i64 0, .int .i64 0, .int .i64 0, .string ⟨#[]⟩, .string ⟨#[]⟩, .int .i64 0, .int .i64 0, .int .i64 0, .int .i64 0, .int .i64 0, .int .i64 0, .int .i64 0, .string ⟨#[]⟩, .int .i64 0, .slice none 0 0, .int .i64 0, .int .i64 0] 28) = ua) := ⟨_, rfl⟩
      have KC : Hid (ua.heap[gc]? = some (.cells #[.int .i64 0, .int .i64 0, .int .i64 0, .int .i64 0, .string ⟨#[]⟩, .string ⟨#[]⟩, .int .i64 0, .int .i64 0, .int .i64 0, .int .i64 0, .int .i64 0, .int .i64 0, .int .i64 0, .string ⟨#[]⟩, .int .i64 0, .slice none 0 0, .int .i64 0, .int .i64 0] 28 (0, 0)) ∧ V.heap.size ≤ gc) := ⟨by rw [← Hua.out, ← Hgc.out]; exact heap_alloc_new u0 _, by have := BW.out.size; have := Hgc.out; omega⟩
      have BWn : Hid (Below V.heap.size V ua) := by rw [← Hua.out]; exact BW.out.alloc BW.out.size _
      go_simp
      rw [Hua.out, Hgc.out]
      refine hK.out _ _ BWn.out (fun _ => ?_)
      clear hK KK BW Hua Hgc
      have BW := BWn
      clear BWn
      try simp only [List.getElem_toArray, List.getElem_cons_zero, List.getElem_cons_succ, Act.put, List.setIfInBounds_toArray, List.set_cons_zero, List.set_cons_succ]
      refine till_one (i := 11) (by kernel_rfl) (o := { dst := some 120, op := Go.Op.call { callee := Go.Callee.value (Go.Operand.func 45), args := #[Go.Operand.tmp 119], argTypes := #[26] }, type := 23, pos := "ref.go:135", after := #[{ on := 10, ground := Go.Ground.data }, { on := 5, ground := Go.Ground.chain }], guard := none }) (by kernel_rfl) (fun KK hK => ?_)
      rw [if_pos (by kernel_rfl)]
      go_simp
      have IJ := show Hid (Irow ua 0 _ _ _) from J4.out ua BW.out
      go_wp2_with (go_at_call 45; refine (id_n (X := (U0 : Int)) (Y := (U1 : Int)) (Z := (U2 : Int)) IJ (by omega) (show Hid _ from rfl) (show Hid _ from rfl) (show Hid _ from rfl)).mono ?_; rintro e u1 ⟨rfl, H⟩)
      have BWn : Hid (Below V.heap.size V u1) := BW.out.trans (H.out.mono BW.out.size)
      have KCn : Hid (u1.heap[gc]? = some (.cells #[.int .i64 0, .int .i64 0, .int .i64 0, .int .i64 0, .string ⟨#[]⟩, .string ⟨#[]⟩, .int .i64 0, .int .i64 0, .int .i64 0, .int .i64 0, .int .i64 0, .int .i64 0, .int .i64 0, .string ⟨#[]⟩, .int .i64 0, .slice none 0 0, .int .i64 0, .int .i64 0] 28 (0, 0)) ∧ V.heap.size ≤ gc) := ⟨(H.out.block gc (Array.getElem?_eq_some_iff.1 KC.out.1).1).trans KC.out.1, KC.out.2⟩
      clear KC
      have KC := KCn
      clear KCn
      refine hK.out _ _ BWn.out (fun _ => ?_)
      clear hK KK H IJ BW
      have BW := BWn
      clear BWn
      try simp only [List.getElem_toArray, List.getElem_cons_zero, List.getElem_cons_succ, Act.put, List.setIfInBounds_toArray, List.set_cons_zero, List.set_cons_succ]
      refine till_one (i := 14) (by kernel_rfl) (o := { dst := some 123, op := Go.Op.call { callee := Go.Callee.value (Go.Operand.func 45), args := #[Go.Operand.tmp 122], argTypes := #[26] }, type := 23, pos := "ref.go:135", after := #[{ on := 13, ground := Go.Ground.data }, { on := 11, ground := Go.Ground.chain }], guard := none }) (by kernel_rfl) (fun KK hK => ?_)
      rw [if_pos (by kernel_rfl)]
      go_simp
      have IJ := show Hid (Irow u1 0 _ _ _) from J5.out u1 BW.out
      go_wp2_with (go_at_call 45; refine (id_n (X := (B0 : Int)) (Y := (B1 : Int)) (Z := (B2 : Int)) IJ (by omega) (show Hid _ from rfl) (show Hid _ from rfl) (show Hid _ from rfl)).mono ?_; rintro e u2 ⟨rfl, H⟩)
      have BWn : Hid (Below V.heap.size V u2) := BW.out.trans (H.out.mono BW.out.size)
      have KCn : Hid (u2.heap[gc]? = some (.cells #[.int .i64 0, .int .i64 0, .int .i64 0, .int .i64 0, .string ⟨#[]⟩, .string ⟨#[]⟩, .int .i64 0, .int .i64 0, .int .i64 0, .int .i64 0, .int .i64 0, .int .i64 0, .int .i64 0, .string ⟨#[]⟩, .int .i64 0, .slice none 0 0, .int .i64 0, .int .i64 0] 28 (0, 0)) ∧ V.heap.size ≤ gc) := ⟨(H.out.block gc (Array.getElem?_eq_some_iff.1 KC.out.1).1).trans KC.out.1, KC.out.2⟩
      clear KC
      have KC := KCn
      clear KCn
      refine hK.out _ _ BWn.out (fun _ => ?_)
      clear hK KK H IJ BW
      have BW := BWn
      clear BWn
      try simp only [List.getElem_toArray, List.getElem_cons_zero, List.getElem_cons_succ, Act.put, List.setIfInBounds_toArray, List.set_cons_zero, List.set_cons_succ]
      refine till_load (i := 20) (oi := { dst := some 129, op := Go.Op.build 25 #[(0, Go.Operand.tmp 123), (1, Go.Operand.tmp 126), (2, Go.Operand.tmp 128)], type := 25, pos := "ref.go:135", after := #[{ on := 14, ground := Go.Ground.data }, { on := 17, ground := Go.Ground.data }, { on := 19, ground := Go.Ground.data }], guard := none }) (v := .agg #[.int .i64 (B0 : Int), .int .i64 (B1 : Int), .int .i64 (B2 : Int), .int .i64 (SZ : Int), .string (spell L5)]) (by kernel_rfl) (by kernel_rfl) (by kernel_rfl) (by kernel_rfl) (fun _ _ _ h => h) (Or.inl ⟨by kernel_rfl, fun W hW => by go_simp⟩) BW.out ?_
      simp only [List.getElem_toArray, List.getElem_cons_zero, List.getElem_cons_succ, Act.put, List.setIfInBounds_toArray, List.set_cons_zero, List.set_cons_succ]
      refine till_load (i := 31) (oi := { dst := some 140, op := Go.Op.build 28 #[(0, Go.Operand.tmp 111), (1, Go.Operand.tmp 114), (2, Go.Operand.tmp 116), (3, Go.Operand.tmp 118), (4, Go.Operand.tmp 120), (5, Go.Operand.tmp 129), (6, Go.Operand.tmp 132), (7, Go.Operand.tmp 133), (8, Go.Operand.tmp 136), (9, Go.Operand.tmp 139)], type := 28, pos := "ref.go:135", after := #[{ on := 2, ground := Go.Ground.data }, { on := 5, ground := Go.Ground.data }, { on := 7, ground := Go.Ground.data }, { on := 9, ground := Go.Ground.data }, { on := 11, ground := Go.Ground.data }, { on := 20, ground := Go.Ground.data }, { on := 23, ground := Go.Ground.data }, { on := 24, ground := Go.Ground.data }, { on := 27, ground := Go.Ground.data }, { on := 30, ground := Go.Ground.data }], guard := none }) (v := .agg CV) (by kernel_rfl) (by kernel_rfl) (by kernel_rfl) (by kernel_rfl) (fun _ _ _ h => h) (Or.inl ⟨by kernel_rfl, fun W hW => by rw [← HCV.out]; go_simp⟩) BW.out ?_
      simp only [List.getElem_toArray, List.getElem_cons_zero, List.getElem_cons_succ, Act.put, List.setIfInBounds_toArray, List.set_cons_zero, List.set_cons_succ]
      refine till_one (i := 33) (by kernel_rfl) (o := { dst := none, op := Go.Op.store 28 (Go.Operand.tmp 21) (Go.Operand.tmp 140), type := 0, pos := "ref.go:135", after := #[{ on := 32, ground := Go.Ground.data }, { on := 31, ground := Go.Ground.data }, { on := 14, ground := Go.Ground.chain }, { on := 0, ground := Go.Ground.phase }, { on := 1, ground := Go.Ground.phase }, { on := 2, ground := Go.Ground.phase }, { on := 3, ground := Go.Ground.phase }, { on := 4, ground := Go.Ground.phase }, { on := 5, ground := Go.Ground.phase }, { on := 6, ground := Go.Ground.phase }, { on := 7, ground := Go.Ground.phase }, { on := 8, ground := Go.Ground.phase }, { on := 9, ground := Go.Ground.phase }, { on := 10, ground := Go.Ground.phase }, { on := 11, ground := Go.Ground.phase }, { on := 12, ground := Go.Ground.phase }, { on := 13, ground := Go.Ground.phase }, { on := 14, ground := Go.Ground.phase }, { on := 15, ground := Go.Ground.phase }, { on := 16, ground := Go.Ground.phase }, { on := 17, ground := Go.Ground.phase }, { on := 18, ground := Go.Ground.phase }, { on := 19, ground := Go.Ground.phase }, { on := 20, ground := Go.Ground.phase }, { on := 21, ground := Go.Ground.phase }, { on := 22, ground := Go.Ground.phase }, { on := 23, ground := Go.Ground.phase }, { on := 24, ground := Go.Ground.phase }, { on := 25, ground := Go.Ground.phase }, { on := 26, ground := Go.Ground.phase }, { on := 27, ground := Go.Ground.phase }, { on := 28, ground := Go.Ground.phase }, { on := 29, ground := Go.Ground.phase }, { on := 30, ground := Go.Ground.phase }, { on := 31, ground := Go.Ground.phase }, { on := 32, ground := Go.Ground.phase }], guard := none }) (by kernel_rfl) (fun KK hK => ?_)
      rw [if_pos (by kernel_rfl)]
      obtain ⟨vf, Hvf⟩ : ∃ vf, Hid (u2.setRow gc CV = vf) := ⟨_, rfl⟩
      have KV : Hid (vf.heap[gc]? = some (.cells CV 28 (0, 0))) := by rw [← Hvf.out]; exact setRow_heap _ _ _ _ _ _ KC.out.1
      have GCV : Hid (V.heap.size ≤ gc) := KC.out.2
      have BF : Hid (Below V.heap.size V vf) := by rw [← Hvf.out]; exact below_setRow BW.out KC.out.2 _
      refine wp_store_row 28 (.tmp 21) (.tmp 140) (by rfl) gc CV (by rfl) (by rfl) 28 _ KC.out.1 (info28 cv18) (by rw [cv18]; rfl) CA1.out ?_
      rw [Hvf.out]
      refine hK.out _ _ BF.out (fun _ => ?_)
      clear hK KK BW KC Hvf
      try simp only [List.getElem_toArray, List.getElem_cons_zero, List.getElem_cons_succ, Act.put, List.setIfInBounds_toArray, List.set_cons_zero, List.set_cons_succ]
      refine till_done (by kernel_rfl) ?_ _
      show (Exit.then _ _) .normal _ _
      clear K2 K17 K23 K27 K30 Q2 Q3 Q5 J1 J4 J5 n1 n4 n1i n4i M2 M3 M5 LN hc1 hc4 hc6 hc7 hc8 h16 i16 HCV
      have IV : Hid (Irow vf 0 X.pa X.pn X.cm.ps) := by rw [← HX.out]; exact ((V7.out.below BF.out).mono (Nat.zero_le _)).ir
      have KZ : Hid (vf.heap[g2]? = some (.cells #[.int .i64 0, .int .i64 0, .int .i64 0, .int .i64 0, .string ⟨#[]⟩, .string ⟨#[]⟩, .int .i64 0, .int .i64 0, .int .i64 0, .int .i64 0, .int .i64 0, .int .i64 0, .int .i64 0, .string ⟨#[]⟩, .int .i64 0, .slice none 0 0, .int .i64 0, .int .i64 0] 28 (0, 0))) := (BF.out.block g2 (Array.getElem?_eq_some_iff.1 SV.out.k2).1).trans SV.out.k2
      have BZ : Hid (Below w.heap.size w vf) := SV.out.bel.trans (BF.out.mono SV.out.bel.size)
      have NG : Hid (gc ≠ g2) := fun e => by have h1 := KV.out; rw [e, KZ.out] at h1; simp only [Option.some.injEq, Obj.cells.injEq] at h1; have h2 := GCV.out; have h3 := (Array.getElem?_eq_some_iff.1 SV.out.k2).1; omega
      cases fr0
      · go_upto_region 16 with first
          | (refine wpList_load_row (by rfl) 28 (.tmp 21) (by rfl) gc (by kernel_rfl) 28 CV (0, 0) _ KV.out Tryd.underlying28 rfl (info28 cv18) ?_)
          | (go_at_call 14; refine (inf_x HCA IV HSZ).mono ?_; rintro e wz ⟨rfl, HZ⟩; rw [Hfr.out])
        have S : Hid (wz.heap[g2]? = some (.cells #[.int .i64 0, .int .i64 0, .int .i64 0, .int .i64 0, .string ⟨#[]⟩, .string ⟨#[]⟩, .int .i64 0, .int .i64 0, .int .i64 0, .int .i64 0, .int .i64 0, .int .i64 0, .int .i64 0, .string ⟨#[]⟩, .int .i64 0, .slice none 0 0, .int .i64 0, .int .i64 0] 28 (0, 0)) ∧ Below w.heap.size w wz) := ⟨(HZ.out.block g2 (Array.getElem?_eq_some_iff.1 KZ.out).1).trans KZ.out, BZ.out.trans (HZ.out.mono BZ.out.size)⟩
        have K2 : Hid (wz.heap[g2]? = some (.cells #[.int .i64 0, .int .i64 0, .int .i64 0, .int .i64 0, .string ⟨#[]⟩, .string ⟨#[]⟩, .int .i64 0, .int .i64 0, .int .i64 0, .int .i64 0, .int .i64 0, .int .i64 0, .int .i64 0, .string ⟨#[]⟩, .int .i64 0, .slice none 0 0, .int .i64 0, .int .i64 0] 28 (0, 0))) := S.out.1
        have FB : Hid (Below w.heap.size w (wz.setRow g2 #[.int .i64 0, .int .i64 0, .int .i64 0, .int .i64 0, .string ⟨#[]⟩, .string ⟨#[]⟩, .int .i64 0, .int .i64 0, .int .i64 0, .int .i64 0, .int .i64 0, .int .i64 0, .int .i64 0, .string ⟨#[]⟩, .int .i64 0, .slice none 0 0, .int .i64 0, .int .i64 0])) := below_setRow S.out.2 (by have := SV.out.e2; omega) _
        refine wp_region_lit ?_
        refine wpList_build (by rfl) 28 #[] (by rfl) (by kernel_rfl) ?_
        refine wpList_store_row (by rfl) 28 (.tmp 2) (.tmp 144) (by rfl) g2 #[.int .i64 0, .int .i64 0, .int .i64 0, .int .i64 0, .string ⟨#[]⟩, .string ⟨#[]⟩, .int .i64 0, .int .i64 0, .int .i64 0, .int .i64 0, .int .i64 0, .int .i64 0, .int .i64 0, .string ⟨#[]⟩, .int .i64 0, .slice none 0 0, .int .i64 0, .int .i64 0] (by kernel_rfl) (by kernel_rfl) 28 _ K2.out (by kernel_rfl) (by rfl) zz_one ?_
        refine wpList_plain (by rfl) (fun KK hKK => ?_)
        refine hKK _ _ ?_
        show (Exit.then _ _) .normal _ _
        rename_i hret
        refine hret _ _ (wp_ret ?_)
        show bodyPost Tryd.prog Tryd.f18 (fun e w' => GtD w w' l e) .ret _ _
        refine bodyPost_ret (res15 Tryd.results18 _ _ g2 #[.int .i64 0, .int .i64 0, .int .i64 0, .int .i64 0, .string ⟨#[]⟩, .string ⟨#[]⟩, .int .i64 0, .int .i64 0, .int .i64 0, .int .i64 0, .int .i64 0, .int .i64 0, .int .i64 0, .string ⟨#[]⟩, .int .i64 0, .slice none 0 0, .int .i64 0, .int .i64 0] (.bool false) (by kernel_rfl) (by kernel_rfl) (setRow_heap _ _ _ _ _ _ K2.out) rfl) rfl ?_
        refine .inl ⟨?_, rfl, FB.out⟩
        rw [RG.out]
        exact if_neg (fun h => by have h2 := Hfr.out; rw [← HX.out] at h2; exact absurd (h2.symm.trans h) (by decide))
      · go_upto_region 17 with first
          | (refine wpList_load_row (by rfl) 28 (.tmp 21) (by rfl) gc (by kernel_rfl) 28 CV (0, 0) _ KV.out Tryd.underlying28 rfl (info28 cv18) ?_)
          | (go_at_call 14; refine (inf_x HCA IV HSZ).mono ?_; rintro e wz ⟨rfl, HZ⟩; rw [Hfr.out])
        have K2 : Hid (wz.heap[g2]? = some (.cells #[.int .i64 0, .int .i64 0, .int .i64 0, .int .i64 0, .string ⟨#[]⟩, .string ⟨#[]⟩, .int .i64 0, .int .i64 0, .int .i64 0, .int .i64 0, .int .i64 0, .int .i64 0, .int .i64 0, .string ⟨#[]⟩, .int .i64 0, .slice none 0 0, .int .i64 0, .int .i64 0] 28 (0, 0))) := (HZ.out.block g2 (Array.getElem?_eq_some_iff.1 KZ.out).1).trans KZ.out
        have KG : Hid (wz.heap[gc]? = some (.cells CV 28 (0, 0))) := (HZ.out.block gc (Array.getElem?_eq_some_iff.1 KV.out).1).trans KV.out
        have FB : Hid (Below w.heap.size w (wz.setRow g2 CV)) := below_setRow (BZ.out.trans (HZ.out.mono BZ.out.size)) (by have := SV.out.e2; omega) _
        have FI : Hid (Iro (wz.setRow g2 CV) w.heap.size a7 m7 c7 (S7.map fun x : Nat => (x : Int))) := (((V7.out.below BF.out).below HZ.out).setRow (by have := SV.out.e2; omega) CV).mono (by omega)
        refine wp_region_lit ?_
        refine wpList_load_row (by rfl) 28 (.tmp 21) (by rfl) gc (by kernel_rfl) 28 CV (0, 0) _ KG.out Tryd.underlying28 rfl (info28 cv18) ?_
        refine wpList_store_row (by rfl) 28 (.tmp 2) (.tmp 145) (by rfl) g2 CV (by kernel_rfl) (by kernel_rfl) 28 _ K2.out (info28 cv18) (by rw [cv18]; rfl) CA1.out ?_
        refine wpList_plain (by rfl) (fun KK hKK => ?_)
        refine hKK _ _ ?_
        show (Exit.then _ _) .normal _ _
        rename_i hret
        refine hret _ _ (wp_ret ?_)
        show bodyPost Tryd.prog Tryd.f18 (fun e w' => GtD w w' l e) .ret _ _
        refine bodyPost_ret (res15 Tryd.results18 _ _ g2 CV (.bool true) (by kernel_rfl) (by kernel_rfl) (setRow_heap _ _ _ _ _ _ K2.out) cv18) rfl ?_
        refine .inr ⟨⟨K, I0, I1, I2, spell L2, spell L3, U0, U1, U2, B0, B1, B2, SZ, spell L5, PT, S7, TM, DY⟩, a7, m7, c7, ?_, by rw [HCA.out, ← HX.out]; rfl, FB.out, FI.out.ir, FI.out.ow⟩
        rw [RG.out]
        exact if_pos (by have h2 := Hfr.out; rw [← HX.out] at h2; exact h2)
  · refine ⟨{ dst := some 21, op := Go.Op.alloc 28, type := 0, pos := "ref.go:135", after := #[], guard := none }, by kernel_rfl, fun KK hK => ?_⟩
    rw [if_pos (by kernel_rfl)]
    obtain ⟨gc, Hgc⟩ : ∃ gc, Hid (V.heap.size = gc) := ⟨_, rfl⟩
    obtain ⟨ua, Hua⟩ : ∃ ua, Hid (V.alloc (.cells #[.int .i64 0, .int .i64 0, .int .i64 0, .int .i64 0, .string ⟨#[]⟩, .string ⟨#[]⟩, .int .i64 0, .int .i64 0, .int .i64 0, .int .i64 0, .int .i64 0, .int .i64 0, .int .i64 0, .string ⟨#[]⟩, .int .i64 0, .slice none 0 0, .int .i64 0, .int .i64 0] 28) = ua) := ⟨_, rfl⟩
    have KC : Hid (ua.heap[gc]? = some (.cells #[.int .i64 0, .int .i64 0, .int .i64 0, .int .i64 0, .string ⟨#[]⟩, .string ⟨#[]⟩, .int .i64 0, .int .i64 0, .int .i64 0, .int .i64 0, .int .i64 0, .int .i64 0, .int .i64 0, .string ⟨#[]⟩, .int .i64 0, .slice none 0 0, .int .i64 0, .int .i64 0] 28 (0, 0)) ∧ V.heap.size ≤ gc) := ⟨by rw [← Hua.out, ← Hgc.out]; exact heap_alloc_new V _, by have := BW.out.size; have := Hgc.out; omega⟩
    have BWn : Hid (Below V.heap.size V ua) := by rw [← Hua.out]; exact BW.out.alloc BW.out.size _
    go_simp
    rw [Hua.out, Hgc.out]
    refine hK.out _ _ BWn.out (fun _ => ?_)
    clear hK KK BW Hua Hgc
    have BW := BWn
    clear BWn
    try simp only [List.getElem_toArray, List.getElem_cons_zero, List.getElem_cons_succ, Act.put, List.setIfInBounds_toArray, List.set_cons_zero, List.set_cons_succ]
    refine till_one (i := 5) (by kernel_rfl) (o := { dst := some 114, op := Go.Op.call { callee := Go.Callee.value (Go.Operand.func 45), args := #[Go.Operand.tmp 113], argTypes := #[26] }, type := 23, pos := "ref.go:135", after := #[{ on := 4, ground := Go.Ground.data }], guard := none }) (by kernel_rfl) (fun KK hK => ?_)
    rw [if_pos (by kernel_rfl)]
    go_simp
    have IJ := show Hid (Irow ua 0 _ _ _) from J1.out ua BW.out
    go_wp2_with (go_at_call 45; refine (id_n (X := (I0 : Int)) (Y := (I1 : Int)) (Z := (I2 : Int)) IJ (by omega) (show Hid _ from rfl) (show Hid _ from rfl) (show Hid _ from rfl)).mono ?_; rintro e u0 ⟨rfl, H⟩)
    have BWn : Hid (Below V.heap.size V u0) := BW.out.trans (H.out.mono BW.out.size)
    have KCn : Hid (u0.heap[gc]? = some (.cells #[.int .i64 0, .int .i64 0, .int .i64 0, .int .i64 0, .string ⟨#[]⟩, .string ⟨#[]⟩, .int .i64 0, .int .i64 0, .int .i64 0, .int .i64 0, .int .i64 0, .int .i64 0, .int .i64 0, .string ⟨#[]⟩, .int .i64 0, .slice none 0 0, .int .i64 0, .int .i64 0] 28 (0, 0)) ∧ V.heap.size ≤ gc) := ⟨(H.out.block gc (Array.getElem?_eq_some_iff.1 KC.out.1).1).trans KC.out.1, KC.out.2⟩
    clear KC
    have KC := KCn
    clear KCn
    refine hK.out _ _ BWn.out (fun _ => ?_)
    clear hK KK H IJ BW
    have BW := BWn
    clear BWn
    try simp only [List.getElem_toArray, List.getElem_cons_zero, List.getElem_cons_succ, Act.put, List.setIfInBounds_toArray, List.set_cons_zero, List.set_cons_succ]
    refine till_one (i := 11) (by kernel_rfl) (o := { dst := some 120, op := Go.Op.call { callee := Go.Callee.value (Go.Operand.func 45), args := #[Go.Operand.tmp 119], argTypes := #[26] }, type := 23, pos := "ref.go:135", after := #[{ on := 10, ground := Go.Ground.data }, { on := 5, ground := Go.Ground.chain }], guard := none }) (by kernel_rfl) (fun KK hK => ?_)
    rw [if_pos (by kernel_rfl)]
    go_simp
    have IJ := show Hid (Irow u0 0 _ _ _) from J4.out u0 BW.out
    go_wp2_with (go_at_call 45; refine (id_n (X := (U0 : Int)) (Y := (U1 : Int)) (Z := (U2 : Int)) IJ (by omega) (show Hid _ from rfl) (show Hid _ from rfl) (show Hid _ from rfl)).mono ?_; rintro e u1 ⟨rfl, H⟩)
    have BWn : Hid (Below V.heap.size V u1) := BW.out.trans (H.out.mono BW.out.size)
    have KCn : Hid (u1.heap[gc]? = some (.cells #[.int .i64 0, .int .i64 0, .int .i64 0, .int .i64 0, .string ⟨#[]⟩, .string ⟨#[]⟩, .int .i64 0, .int .i64 0, .int .i64 0, .int .i64 0, .int .i64 0, .int .i64 0, .int .i64 0, .string ⟨#[]⟩, .int .i64 0, .slice none 0 0, .int .i64 0, .int .i64 0] 28 (0, 0)) ∧ V.heap.size ≤ gc) := ⟨(H.out.block gc (Array.getElem?_eq_some_iff.1 KC.out.1).1).trans KC.out.1, KC.out.2⟩
    clear KC
    have KC := KCn
    clear KCn
    refine hK.out _ _ BWn.out (fun _ => ?_)
    clear hK KK H IJ BW
    have BW := BWn
    clear BWn
    try simp only [List.getElem_toArray, List.getElem_cons_zero, List.getElem_cons_succ, Act.put, List.setIfInBounds_toArray, List.set_cons_zero, List.set_cons_succ]
    refine till_one (i := 14) (by kernel_rfl) (o := { dst := some 123, op := Go.Op.call { callee := Go.Callee.value (Go.Operand.func 45), args := #[Go.Operand.tmp 122], argTypes := #[26] }, type := 23, pos := "ref.go:135", after := #[{ on := 13, ground := Go.Ground.data }, { on := 11, ground := Go.Ground.chain }], guard := none }) (by kernel_rfl) (fun KK hK => ?_)
    rw [if_pos (by kernel_rfl)]
    go_simp
    have IJ := show Hid (Irow u1 0 _ _ _) from J5.out u1 BW.out
    go_wp2_with (go_at_call 45; refine (id_n (X := (B0 : Int)) (Y := (B1 : Int)) (Z := (B2 : Int)) IJ (by omega) (show Hid _ from rfl) (show Hid _ from rfl) (show Hid _ from rfl)).mono ?_; rintro e u2 ⟨rfl, H⟩)
    have BWn : Hid (Below V.heap.size V u2) := BW.out.trans (H.out.mono BW.out.size)
    have KCn : Hid (u2.heap[gc]? = some (.cells #[.int .i64 0, .int .i64 0, .int .i64 0, .int .i64 0, .string ⟨#[]⟩, .string ⟨#[]⟩, .int .i64 0, .int .i64 0, .int .i64 0, .int .i64 0, .int .i64 0, .int .i64 0, .int .i64 0, .string ⟨#[]⟩, .int .i64 0, .slice none 0 0, .int .i64 0, .int .i64 0] 28 (0, 0)) ∧ V.heap.size ≤ gc) := ⟨(H.out.block gc (Array.getElem?_eq_some_iff.1 KC.out.1).1).trans KC.out.1, KC.out.2⟩
    clear KC
    have KC := KCn
    clear KCn
    refine hK.out _ _ BWn.out (fun _ => ?_)
    clear hK KK H IJ BW
    have BW := BWn
    clear BWn
    try simp only [List.getElem_toArray, List.getElem_cons_zero, List.getElem_cons_succ, Act.put, List.setIfInBounds_toArray, List.set_cons_zero, List.set_cons_succ]
    refine till_load (i := 20) (oi := { dst := some 129, op := Go.Op.build 25 #[(0, Go.Operand.tmp 123), (1, Go.Operand.tmp 126), (2, Go.Operand.tmp 128)], type := 25, pos := "ref.go:135", after := #[{ on := 14, ground := Go.Ground.data }, { on := 17, ground := Go.Ground.data }, { on := 19, ground := Go.Ground.data }], guard := none }) (v := .agg #[.int .i64 (B0 : Int), .int .i64 (B1 : Int), .int .i64 (B2 : Int), .int .i64 (SZ : Int), .string (spell L5)]) (by kernel_rfl) (by kernel_rfl) (by kernel_rfl) (by kernel_rfl) (fun _ _ _ h => h) (Or.inl ⟨by kernel_rfl, fun W hW => by go_simp⟩) BW.out ?_
    simp only [List.getElem_toArray, List.getElem_cons_zero, List.getElem_cons_succ, Act.put, List.setIfInBounds_toArray, List.set_cons_zero, List.set_cons_succ]
    refine till_load (i := 31) (oi := { dst := some 140, op := Go.Op.build 28 #[(0, Go.Operand.tmp 111), (1, Go.Operand.tmp 114), (2, Go.Operand.tmp 116), (3, Go.Operand.tmp 118), (4, Go.Operand.tmp 120), (5, Go.Operand.tmp 129), (6, Go.Operand.tmp 132), (7, Go.Operand.tmp 133), (8, Go.Operand.tmp 136), (9, Go.Operand.tmp 139)], type := 28, pos := "ref.go:135", after := #[{ on := 2, ground := Go.Ground.data }, { on := 5, ground := Go.Ground.data }, { on := 7, ground := Go.Ground.data }, { on := 9, ground := Go.Ground.data }, { on := 11, ground := Go.Ground.data }, { on := 20, ground := Go.Ground.data }, { on := 23, ground := Go.Ground.data }, { on := 24, ground := Go.Ground.data }, { on := 27, ground := Go.Ground.data }, { on := 30, ground := Go.Ground.data }], guard := none }) (v := .agg CV) (by kernel_rfl) (by kernel_rfl) (by kernel_rfl) (by kernel_rfl) (fun _ _ _ h => h) (Or.inl ⟨by kernel_rfl, fun W hW => by rw [← HCV.out]; go_simp⟩) BW.out ?_
    simp only [List.getElem_toArray, List.getElem_cons_zero, List.getElem_cons_succ, Act.put, List.setIfInBounds_toArray, List.set_cons_zero, List.set_cons_succ]
    refine till_one (i := 33) (by kernel_rfl) (o := { dst := none, op := Go.Op.store 28 (Go.Operand.tmp 21) (Go.Operand.tmp 140), type := 0, pos := "ref.go:135", after := #[{ on := 32, ground := Go.Ground.data }, { on := 31, ground := Go.Ground.data }, { on := 14, ground := Go.Ground.chain }, { on := 0, ground := Go.Ground.phase }, { on := 1, ground := Go.Ground.phase }, { on := 2, ground := Go.Ground.phase }, { on := 3, ground := Go.Ground.phase }, { on := 4, ground := Go.Ground.phase }, { on := 5, ground := Go.Ground.phase }, { on := 6, ground := Go.Ground.phase }, { on := 7, ground := Go.Ground.phase }, { on := 8, ground := Go.Ground.phase }, { on := 9, ground := Go.Ground.phase }, { on := 10, ground := Go.Ground.phase }, { on := 11, ground := Go.Ground.phase }, { on := 12, ground := Go.Ground.phase }, { on := 13, ground := Go.Ground.phase }, { on := 14, ground := Go.Ground.phase }, { on := 15, ground := Go.Ground.phase }, { on := 16, ground := Go.Ground.phase }, { on := 17, ground := Go.Ground.phase }, { on := 18, ground := Go.Ground.phase }, { on := 19, ground := Go.Ground.phase }, { on := 20, ground := Go.Ground.phase }, { on := 21, ground := Go.Ground.phase }, { on := 22, ground := Go.Ground.phase }, { on := 23, ground := Go.Ground.phase }, { on := 24, ground := Go.Ground.phase }, { on := 25, ground := Go.Ground.phase }, { on := 26, ground := Go.Ground.phase }, { on := 27, ground := Go.Ground.phase }, { on := 28, ground := Go.Ground.phase }, { on := 29, ground := Go.Ground.phase }, { on := 30, ground := Go.Ground.phase }, { on := 31, ground := Go.Ground.phase }, { on := 32, ground := Go.Ground.phase }], guard := none }) (by kernel_rfl) (fun KK hK => ?_)
    rw [if_pos (by kernel_rfl)]
    obtain ⟨vf, Hvf⟩ : ∃ vf, Hid (u2.setRow gc CV = vf) := ⟨_, rfl⟩
    have KV : Hid (vf.heap[gc]? = some (.cells CV 28 (0, 0))) := by rw [← Hvf.out]; exact setRow_heap _ _ _ _ _ _ KC.out.1
    have GCV : Hid (V.heap.size ≤ gc) := KC.out.2
    have BF : Hid (Below V.heap.size V vf) := by rw [← Hvf.out]; exact below_setRow BW.out KC.out.2 _
    refine wp_store_row 28 (.tmp 21) (.tmp 140) (by rfl) gc CV (by rfl) (by rfl) 28 _ KC.out.1 (info28 cv18) (by rw [cv18]; rfl) CA1.out ?_
    rw [Hvf.out]
    refine hK.out _ _ BF.out (fun _ => ?_)
    clear hK KK BW KC Hvf
    try simp only [List.getElem_toArray, List.getElem_cons_zero, List.getElem_cons_succ, Act.put, List.setIfInBounds_toArray, List.set_cons_zero, List.set_cons_succ]
    refine till_done (by kernel_rfl) ?_ _
    show (Exit.then _ _) .normal _ _
    clear K2 K17 K23 K27 K30 Q2 Q3 Q5 J1 J4 J5 n1 n4 n1i n4i M2 M3 M5 LN hc1 hc4 hc6 hc7 hc8 h16 i16 HCV
    have IV : Hid (Irow vf 0 X.pa X.pn X.cm.ps) := by rw [← HX.out]; exact ((V7.out.below BF.out).mono (Nat.zero_le _)).ir
    have KZ : Hid (vf.heap[g2]? = some (.cells #[.int .i64 0, .int .i64 0, .int .i64 0, .int .i64 0, .string ⟨#[]⟩, .string ⟨#[]⟩, .int .i64 0, .int .i64 0, .int .i64 0, .int .i64 0, .int .i64 0, .int .i64 0, .int .i64 0, .string ⟨#[]⟩, .int .i64 0, .slice none 0 0, .int .i64 0, .int .i64 0] 28 (0, 0))) := (BF.out.block g2 (Array.getElem?_eq_some_iff.1 SV.out.k2).1).trans SV.out.k2
    have BZ : Hid (Below w.heap.size w vf) := SV.out.bel.trans (BF.out.mono SV.out.bel.size)
    have NG : Hid (gc ≠ g2) := fun e => by have h1 := KV.out; rw [e, KZ.out] at h1; simp only [Option.some.injEq, Obj.cells.injEq] at h1; have h2 := GCV.out; have h3 := (Array.getElem?_eq_some_iff.1 SV.out.k2).1; omega
    cases fr0
    · go_upto_region 16 with first
        | (refine wpList_load_row (by rfl) 28 (.tmp 21) (by rfl) gc (by kernel_rfl) 28 CV (0, 0) _ KV.out Tryd.underlying28 rfl (info28 cv18) ?_)
        | (go_at_call 14; refine (inf_x HCA IV HSZ).mono ?_; rintro e wz ⟨rfl, HZ⟩; rw [Hfr.out])
      have S : Hid (wz.heap[g2]? = some (.cells #[.int .i64 0, .int .i64 0, .int .i64 0, .int .i64 0, .string ⟨#[]⟩, .string ⟨#[]⟩, .int .i64 0, .int .i64 0, .int .i64 0, .int .i64 0, .int .i64 0, .int .i64 0, .int .i64 0, .string ⟨#[]⟩, .int .i64 0, .slice none 0 0, .int .i64 0, .int .i64 0] 28 (0, 0)) ∧ Below w.heap.size w wz) := ⟨(HZ.out.block g2 (Array.getElem?_eq_some_iff.1 KZ.out).1).trans KZ.out, BZ.out.trans (HZ.out.mono BZ.out.size)⟩
      have K2 : Hid (wz.heap[g2]? = some (.cells #[.int .i64 0, .int .i64 0, .int .i64 0, .int .i64 0, .string ⟨#[]⟩, .string ⟨#[]⟩, .int .i64 0, .int .i64 0, .int .i64 0, .int .i64 0, .int .i64 0, .int .i64 0, .int .i64 0, .string ⟨#[]⟩, .int .i64 0, .slice none 0 0, .int .i64 0, .int .i64 0] 28 (0, 0))) := S.out.1
      have FB : Hid (Below w.heap.size w (wz.setRow g2 #[.int .i64 0, .int .i64 0, .int .i64 0, .int .i64 0, .string ⟨#[]⟩, .string ⟨#[]⟩, .int .i64 0, .int .i64 0, .int .i64 0, .int .i64 0, .int .i64 0, .int .i64 0, .int .i64 0, .string ⟨#[]⟩, .int .i64 0, .slice none 0 0, .int .i64 0, .int .i64 0])) := below_setRow S.out.2 (by have := SV.out.e2; omega) _
      refine wp_region_lit ?_
      refine wpList_build (by rfl) 28 #[] (by rfl) (by kernel_rfl) ?_
      refine wpList_store_row (by rfl) 28 (.tmp 2) (.tmp 144) (by rfl) g2 #[.int .i64 0, .int .i64 0, .int .i64 0, .int .i64 0, .string ⟨#[]⟩, .string ⟨#[]⟩, .int .i64 0, .int .i64 0, .int .i64 0, .int .i64 0, .int .i64 0, .int .i64 0, .int .i64 0, .string ⟨#[]⟩, .int .i64 0, .slice none 0 0, .int .i64 0, .int .i64 0] (by kernel_rfl) (by kernel_rfl) 28 _ K2.out (by kernel_rfl) (by rfl) zz_one ?_
      refine wpList_plain (by rfl) (fun KK hKK => ?_)
      refine hKK _ _ ?_
      show (Exit.then _ _) .normal _ _
      rename_i hret
      refine hret _ _ (wp_ret ?_)
      show bodyPost Tryd.prog Tryd.f18 (fun e w' => GtD w w' l e) .ret _ _
      refine bodyPost_ret (res15 Tryd.results18 _ _ g2 #[.int .i64 0, .int .i64 0, .int .i64 0, .int .i64 0, .string ⟨#[]⟩, .string ⟨#[]⟩, .int .i64 0, .int .i64 0, .int .i64 0, .int .i64 0, .int .i64 0, .int .i64 0, .int .i64 0, .string ⟨#[]⟩, .int .i64 0, .slice none 0 0, .int .i64 0, .int .i64 0] (.bool false) (by kernel_rfl) (by kernel_rfl) (setRow_heap _ _ _ _ _ _ K2.out) rfl) rfl ?_
      refine .inl ⟨?_, rfl, FB.out⟩
      rw [RG.out]
      exact if_neg (fun h => by have h2 := Hfr.out; rw [← HX.out] at h2; exact absurd (h2.symm.trans h) (by decide))
    · go_upto_region 17 with first
        | (refine wpList_load_row (by rfl) 28 (.tmp 21) (by rfl) gc (by kernel_rfl) 28 CV (0, 0) _ KV.out Tryd.underlying28 rfl (info28 cv18) ?_)
        | (go_at_call 14; refine (inf_x HCA IV HSZ).mono ?_; rintro e wz ⟨rfl, HZ⟩; rw [Hfr.out])
      have K2 : Hid (wz.heap[g2]? = some (.cells #[.int .i64 0, .int .i64 0, .int .i64 0, .int .i64 0, .string ⟨#[]⟩, .string ⟨#[]⟩, .int .i64 0, .int .i64 0, .int .i64 0, .int .i64 0, .int .i64 0, .int .i64 0, .int .i64 0, .string ⟨#[]⟩, .int .i64 0, .slice none 0 0, .int .i64 0, .int .i64 0] 28 (0, 0))) := (HZ.out.block g2 (Array.getElem?_eq_some_iff.1 KZ.out).1).trans KZ.out
      have KG : Hid (wz.heap[gc]? = some (.cells CV 28 (0, 0))) := (HZ.out.block gc (Array.getElem?_eq_some_iff.1 KV.out).1).trans KV.out
      have FB : Hid (Below w.heap.size w (wz.setRow g2 CV)) := below_setRow (BZ.out.trans (HZ.out.mono BZ.out.size)) (by have := SV.out.e2; omega) _
      have FI : Hid (Iro (wz.setRow g2 CV) w.heap.size a7 m7 c7 (S7.map fun x : Nat => (x : Int))) := (((V7.out.below BF.out).below HZ.out).setRow (by have := SV.out.e2; omega) CV).mono (by omega)
      refine wp_region_lit ?_
      refine wpList_load_row (by rfl) 28 (.tmp 21) (by rfl) gc (by kernel_rfl) 28 CV (0, 0) _ KG.out Tryd.underlying28 rfl (info28 cv18) ?_
      refine wpList_store_row (by rfl) 28 (.tmp 2) (.tmp 145) (by rfl) g2 CV (by kernel_rfl) (by kernel_rfl) 28 _ K2.out (info28 cv18) (by rw [cv18]; rfl) CA1.out ?_
      refine wpList_plain (by rfl) (fun KK hKK => ?_)
      refine hKK _ _ ?_
      show (Exit.then _ _) .normal _ _
      rename_i hret
      refine hret _ _ (wp_ret ?_)
      show bodyPost Tryd.prog Tryd.f18 (fun e w' => GtD w w' l e) .ret _ _
      refine bodyPost_ret (res15 Tryd.results18 _ _ g2 CV (.bool true) (by kernel_rfl) (by kernel_rfl) (setRow_heap _ _ _ _ _ _ K2.out) cv18) rfl ?_
      refine .inr ⟨⟨K, I0, I1, I2, spell L2, spell L3, U0, U1, U2, B0, B1, B2, SZ, spell L5, PT, S7, TM, DY⟩, a7, m7, c7, ?_, by rw [HCA.out, ← HX.out]; rfl, FB.out, FI.out.ir, FI.out.ow⟩
      rw [RG.out]
      exact if_pos (by have h2 := Hfr.out; rw [← HX.out] at h2; exact h2)
end Go.Proofs.YtoegfckafnlknaaDoor
