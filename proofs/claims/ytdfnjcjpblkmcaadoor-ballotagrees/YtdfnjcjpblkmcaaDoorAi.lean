/- Acceptors in memory: the program's (type 84) and the document's (type 37); New, Promised, promise. -/
import Derived.Test.YtdfnjcjpblkmcaaDoorAg
import Derived.Test.YtdfnjcjpblkmcaaDoorAh
namespace Go.Proofs.YtdfnjcjpblkmcaaDoor
open Go.ChangeShapes Go.WideShapes Go.ChangeAt Go.RowKit
set_option maxRecDepth 20000
set_option linter.unusedVariables false
set_option linter.unusedSimpArgs false
/- what an acceptor holds -/
structure As where
  node : Int
  pR : Int
  pN : Int
  aR : Int
  aN : Int
  cl : Int
  L : List Cm
abbrev accA (s : As) (a : Option Addr) (n c : Nat) : Array Value := #[.int .i64 s.node, .int .i64 s.pR, .int .i64 s.pN, .int .i64 s.aR, .int .i64 s.aN, .slice a n c, .int .i64 s.cl]
/- an acceptor in block g; its ledger lies from G on -/
structure Acc (w : World) (t : TypeId) (G g : Nat) (s : As) (a : Option Addr) (n c : Nat) (X : List Cx) : Prop where
  blk : w.heap[g]? = some (.cells (accA s a n c) t (0, 0))
  cms : Cms w G a n X
  z : a = none → c = 0
  e : led X = s.L
  lt : g < G
section
variable {w w' : World} {t : TypeId} {G g : Nat} {s : As} {a : Option Addr} {n c : Nat} {X : List Cx}
theorem Acc.c0 (h : Acc w t G g s a n c X) : w.cell? ⟨g, 0, none⟩ = some (.int .i64 s.node) := by simp [World.cell?, h.blk]
theorem Acc.c1 (h : Acc w t G g s a n c X) : w.cell? ⟨g, 1, none⟩ = some (.int .i64 s.pR) := by simp [World.cell?, h.blk]
theorem Acc.c2 (h : Acc w t G g s a n c X) : w.cell? ⟨g, 2, none⟩ = some (.int .i64 s.pN) := by simp [World.cell?, h.blk]
theorem Acc.c3 (h : Acc w t G g s a n c X) : w.cell? ⟨g, 3, none⟩ = some (.int .i64 s.aR) := by simp [World.cell?, h.blk]
theorem Acc.c4 (h : Acc w t G g s a n c X) : w.cell? ⟨g, 4, none⟩ = some (.int .i64 s.aN) := by simp [World.cell?, h.blk]
theorem Acc.c5 (h : Acc w t G g s a n c X) : w.cell? ⟨g, 5, none⟩ = some (.slice a n c) := by simp [World.cell?, h.blk]
theorem Acc.c6 (h : Acc w t G g s a n c X) : w.cell? ⟨g, 6, none⟩ = some (.int .i64 s.cl) := by simp [World.cell?, h.blk]
theorem Acc.fz (h : Acc w t G g s a n c X) (i : Nat) : w.frozen? ⟨g, i, none⟩ = false := by simp [World.frozen?, h.blk]
theorem Acc.glt (h : Acc w t G g s a n c X) : g < w.heap.size := (Array.getElem?_eq_some_iff.1 h.blk).1
theorem Acc.keep (h : Acc w t G g s a n c X) (hs : w.heap.size ≤ w'.heap.size) (hg : w'.heap[g]? = w.heap[g]?) (hb : ∀ q, G ≤ q → q < w.heap.size → w'.heap[q]? = w.heap[q]?) : Acc w' t G g s a n c X := ⟨hg.trans h.blk, h.cms.keep hs hb, h.z, h.e, h.lt⟩
theorem Acc.below (h : Acc w t G g s a n c X) (hb : Below w.heap.size w w') : Acc w' t G g s a n c X := h.keep hb.size (hb.block g h.glt) (fun q _ hq => hb.block q hq)
theorem Acc.ch {S : Nat → Prop} (h : Acc w t G g s a n c X) (hc : Ch w w' S) (hg : ¬ S g) (hs : ∀ q, G ≤ q → q < w.heap.size → ¬ S q) : Acc w' t G g s a n c X := h.keep hc.size (hc.block g h.glt hg) (fun q h1 h2 => hc.block q h2 (hs q h1 h2))
/- the struct itself is written -/
theorem Acc.put {s' : As} {a' : Option Addr} {n' c' : Nat} {X' : List Cx} (h : Acc w t G g s a n c X) (hb : w'.heap[g]? = some (.cells (accA s' a' n' c') t (0, 0))) (hc : Cms w' G a' n' X') (hz : a' = none → c' = 0) (he : led X' = s'.L) : Acc w' t G g s' a' n' c' X' := ⟨hb, hc, hz, he, h.lt⟩
end
/- the answers of Prepare, Accept by numbers -/
def prk (s : As) (r n : Int) : Nat := if lgl r n = false then 2 else if abv s.pR s.pN r n = true then 12 else 0
def prS (s : As) (r n : Int) : As := if prk s r n = 0 then { s with pR := r, pN := n } else s
def errv (E : Nat → Addr) (k : Nat) : Value := if k = 0 then .nilIface else if k = 2 then er (E 0) else if k = 12 then er (E 1) else er (E 2)
theorem prk_no {s : As} {r n : Int} (h : lgl r n = false) : prk s r n = 2 := by simp [prk, h]
theorem prk_low {s : As} {r n : Int} (h : lgl r n = true) (h2 : abv s.pR s.pN r n = true) : prk s r n = 12 := by simp [prk, h, h2]
theorem prk_ok {s : As} {r n : Int} (h : lgl r n = true) (h2 : abv s.pR s.pN r n = false) : prk s r n = 0 := by simp [prk, h, h2]
theorem prS_no {s : As} {r n : Int} (h : prk s r n ≠ 0) : prS s r n = s := by simp [prS, h]
theorem prS_ok {s : As} {r n : Int} (h : prk s r n = 0) : prS s r n = { s with pR := r, pN := n } := by simp [prS, h]
theorem prk_cases (s : As) (r n : Int) : prk s r n = 0 ∨ prk s r n = 2 ∨ prk s r n = 12 := by
  unfold prk
  split
  · exact .inr (.inl rfl)
  · split
    · exact .inr (.inr rfl)
    · exact .inl rfl
/- New -/
theorem new_no {M : Nat} {E : Nat → Addr} {w : World} (n : Int) (hn : nod n = false) (hS : Hid (Sent w M E)) (hM : 1 ≤ M) : Calls Tryd.prog 9 #[.int .i64 n] w fun e w' => e = .returned (.tuple #[.pointer none, er (E 0)]) ∧ Hid (Below w.heap.size w w') := by
  have c0 : ∀ j, (w.drewN j).cell? ⟨0, 0, none⟩ = some (er (E 0)) := fun j => hS.out.c 0 (by omega)
  unfold er at c0 ⊢
  have HN : Hid (nod n = false) := hn
  clear hn
  go_enter Tryd.func9, Tryd.ntmps9
  go_wp2_with (go_at_call 24; refine (isNode_n n _).mono ?_; rintro e w1 ⟨rfl, h0⟩; rw [h0, HN.out]; clear h0)
  go_quiet (fail)
  go_wp2
  refine bodyPost_ret (v := .tuple #[.pointer none, .iface 102 (.pointer (some (E 0)))]) (by simp [results, Tryd.results9, go_sem]) rfl ⟨rfl, below_drewN (Below.refl _ _) _⟩
theorem new_ok {w : World} (n : Int) (hn : nod n = true) : Calls Tryd.prog 9 #[.int .i64 n] w fun e w' => e = .returned (.tuple #[.pointer (some ⟨w.heap.size, 0, none⟩), .nilIface]) ∧ Hid (w' = w.alloc (.cells (accA ⟨n, 0, 0, 0, 0, 0, []⟩ none 0 0) 84)) := by
  have HN : Hid (nod n = true) := hn
  clear hn
  go_enter Tryd.func9, Tryd.ntmps9
  go_wp2_with (go_at_call 24; refine (isNode_n n _).mono ?_; rintro e w1 ⟨rfl, h0⟩; rw [h0, HN.out]; clear h0)
  refine bodyPost_ret (v := .tuple #[.pointer (some ⟨w.heap.size, 0, none⟩), .nilIface]) (by simp [results, Tryd.results9, go_sem]) rfl ⟨rfl, rfl⟩
/- Promised -/
theorem promised_n {w : World} {G g : Nat} {s : As} {a : Option Addr} {n c : Nat} {X : List Cx} (hA : Hid (Acc w 84 G g s a n c X)) : Calls Tryd.prog 14 #[.pointer (some ⟨g, 0, none⟩)] w fun e w' => e = .returned (bal s.pR s.pN) ∧ Hid (Below w.heap.size w w') := by
  have A1 := hA.out.below (alloc1 w (.cells #[.int .i64 0, .int .i64 0] 34))
  have c1 := A1.c1
  have c2 := A1.c2
  clear A1
  go_enter Tryd.func14, Tryd.ntmps14
  go_wp2
  refine bodyPost_ret (v := bal s.pR s.pN) (by simp [results, Tryd.results14, go_sem]) rfl ⟨rfl, ?_⟩
  first
    | exact alloc1 _ _
    | exact ((alloc1 w _).trans ((Ch.set _ w.heap.size 0 _).toBelow (B := w.heap.size) (by simp) (fun k hk e => by omega))).trans ((Ch.set _ w.heap.size 1 _).toBelow (B := w.heap.size) (by simp) (fun k hk e => by omega))
/- what promise reads -/
structure Pq (W : World) (g gb : Nat) (p1 p2 r n : Int) : Prop where
  c1 : W.cell? ⟨g, 1, none⟩ = some (.int .i64 p1)
  c2 : W.cell? ⟨g, 2, none⟩ = some (.int .i64 p2)
  b0 : W.cell? ⟨gb, 0, none⟩ = some (.int .i64 r)
  b1 : W.cell? ⟨gb, 1, none⟩ = some (.int .i64 n)
theorem Pq.below {W W' : World} {g gb : Nat} {p1 p2 r n : Int} (h : Pq W g gb p1 p2 r n) (hb : Below W.heap.size W W') : Pq W' g gb p1 p2 r n :=
  ⟨(hb.cell (p := ⟨g, 1, none⟩) (cell_lt h.c1)).trans h.c1, (hb.cell (p := ⟨g, 2, none⟩) (cell_lt h.c2)).trans h.c2, (hb.cell (p := ⟨gb, 0, none⟩) (cell_lt h.b0)).trans h.b0, (hb.cell (p := ⟨gb, 1, none⟩) (cell_lt h.b1)).trans h.b1⟩
set_option maxHeartbeats 2000000 in
theorem promise_n {M : Nat} {E : Nat → Addr} {w : World} {G g : Nat} {s : As} {a : Option Addr} {m c : Nat} {X : List Cx} (hA : Hid (Acc w 84 G g s a m c X)) (hE : Hid (Sent w M E)) (hM : 2 ≤ M) (r n : Int) :
    Calls Tryd.prog 30 #[.pointer (some ⟨g, 0, none⟩), bal r n] w fun e w' => e = .returned (errv E (prk s r n)) ∧ Hid (Acc w' 84 G g (prS s r n) a m c X ∧ Ch w w' (fun q => q = g)) := by
  obtain ⟨gb, Hgb⟩ : ∃ gb, Hid (w.heap.size = gb) := ⟨_, rfl⟩
  obtain ⟨w0, Hw0⟩ : ∃ w0, Hid (w.alloc (.cells #[.int .i64 r, .int .i64 n] 34) = w0) := ⟨_, rfl⟩
  have L0 : Hid (Below w.heap.size w w0) := by rw [← Hw0.out]; exact alloc1 w _
  have b0 : w0.cell? ⟨gb, 0, none⟩ = some (.int .i64 r) := by rw [← Hw0.out, ← Hgb.out]; simp
  have b1 : w0.cell? ⟨gb, 1, none⟩ = some (.int .i64 n) := by rw [← Hw0.out, ← Hgb.out]; simp
  have P0 : Hid (Pq w0 g gb s.pR s.pN r n) := ⟨(hA.out.below L0.out).c1, (hA.out.below L0.out).c2, b0, b1⟩
  by_cases hl : lgl r n = true
  · have HL : Hid (lgl r n = true) := hl
    clear hl
    by_cases ha : abv s.pR s.pN r n = true
    · have EA : Hid (abv s.pR s.pN r n = true) := ha
      clear ha
      have K : Hid (prk s r n = 12) := prk_low HL.out EA.out
      have K2 : Hid (prS s r n = s) := prS_no (by rw [K.out]; decide)
      rw [K.out, K2.out]
      go_enter Tryd.func30, Tryd.ntmps30
      go_upto_region 1 with (fail)
      rw [Hw0.out, Hgb.out]
      go_upto_region 3 with (go_at_call 34; refine (isLegal_n r n _).mono ?_; rintro e w1 ⟨rfl, H1⟩; rw [HL.out])
      have P1 : Pq w1.drew g gb s.pR s.pN r n := (P0.out.below H1.out).below (Below.refl _ _).drew
      have B1 : Hid (Below w.heap.size w w1.drew) := (L0.out.trans (H1.out.mono L0.out.size)).drew
      clear b0 b1
      refine wp_region_till (S := fun L W => Pq W g gb s.pR s.pN r n) (by kernel_rfl) P1 (fun hS => ?_)
      refine till_take (i := 0) (v := .pointer (some ⟨g, 0, none⟩)) rfl (by kernel_rfl) (by kernel_rfl) (by kernel_rfl) (fun _ _ _ h => h) (fun L w => Iff.rfl) (Or.inl ⟨by rfl, fun w => by go_simp⟩) hS (fun hSb => ?_)
      simp only [List.getElem_toArray, List.getElem_cons_zero, List.getElem_cons_succ, Act.put, List.setIfInBounds_toArray, List.set_cons_zero, List.set_cons_succ]
      clear hS
      refine till_take (i := 1) (v := .pointer (some ⟨g, 0, none⟩)) rfl (by kernel_rfl) (by kernel_rfl) (by kernel_rfl) (fun _ _ _ h => h) (fun L w => Iff.rfl) (Or.inl ⟨by rfl, fun w => by go_simp⟩) hSb (fun hS => ?_)
      simp only [List.getElem_toArray, List.getElem_cons_zero, List.getElem_cons_succ, Act.put, List.setIfInBounds_toArray, List.set_cons_zero, List.set_cons_succ]
      clear hSb
      refine till_take (i := 2) (v := .pointer (some ⟨g, 1, none⟩)) rfl (by kernel_rfl) (by kernel_rfl) (by kernel_rfl) (fun _ _ _ h => h) (fun L w => Iff.rfl) (Or.inl ⟨by rfl, fun w => by go_simp⟩) hS (fun hSb => ?_)
      simp only [List.getElem_toArray, List.getElem_cons_zero, List.getElem_cons_succ, Act.put, List.setIfInBounds_toArray, List.set_cons_zero, List.set_cons_succ]
      clear hS
      refine till_read (i := 3) (c := 5) (v := bal s.pR s.pN) (T := fun W => Pq W g gb s.pR s.pN r n) rfl rfl (by kernel_rfl) (by kernel_rfl) (by kernel_rfl) (by kernel_rfl) (by kernel_rfl) (fun _ _ _ h => h) (fun L w => Iff.rfl) (fun L w h1 h2 => h2) (Or.inl ⟨by rfl, fun w h => by have q1 := h.c1; have q2 := h.c2; go_simp⟩) hSb (fun hS => ?_)
      simp only [List.getElem_toArray, List.getElem_cons_zero, List.getElem_cons_succ, Act.put, List.setIfInBounds_toArray, List.set_cons_zero, List.set_cons_succ]
      clear hSb
      refine till_read (i := 4) (c := 5) (v := bal r n) (T := fun W => Pq W g gb s.pR s.pN r n) rfl rfl (by kernel_rfl) (by kernel_rfl) (by kernel_rfl) (by kernel_rfl) (by kernel_rfl) (fun _ _ _ h => h) (fun L w => Iff.rfl) (fun L w h1 h2 => h2) (Or.inl ⟨by rfl, fun w h => by have q1 := h.b0; have q2 := h.b1; go_simp⟩) hS (fun hSb => ?_)
      simp only [List.getElem_toArray, List.getElem_cons_zero, List.getElem_cons_succ, Act.put, List.setIfInBounds_toArray, List.set_cons_zero, List.set_cons_succ]
      clear hS
      refine till_one (i := 5) (by kernel_rfl) rfl (fun K hK => ?_)
      simp only [List.getElem_toArray, List.getElem_cons_zero, List.getElem_cons_succ]
      rw [if_pos (by rfl)]
      go_simp
      go_wp2_with (go_at_call 11; refine (above_n s.pR s.pN r n _).mono ?_; rintro e w2 ⟨rfl, H2⟩; rw [EA.out])
      have Z2 : Pq w2 g gb s.pR s.pN r n := hSb.below H2.out
      refine hK.out _ _ (Z2) (fun hS => ?_)
      clear hK K
      try simp only [List.getElem_toArray, List.getElem_cons_zero, List.getElem_cons_succ, Act.put, List.setIfInBounds_toArray, List.set_cons_zero, List.set_cons_succ]
      clear hSb
      refine till_done (by kernel_rfl) ?_ _
      clear hS
      have B2 : Hid (Below w.heap.size w w2) := B1.out.trans (H2.out.mono B1.out.size)
      have c0 : w2.cell? ⟨1, 0, none⟩ = some (.iface 102 (.pointer (some (E 1)))) := (hE.out.below B2.out).c 1 (by omega)
      go_wp2
      go_ret
      exact ⟨rfl, hA.out.below B2.out, Ch.below B2.out⟩
    · have EA : Hid (abv s.pR s.pN r n = false) := by show _ = _; simpa using ha
      clear ha
      have K : Hid (prk s r n = 0) := prk_ok HL.out EA.out
      have K2 : Hid (prS s r n = { s with pR := r, pN := n }) := prS_ok K.out
      rw [K.out, K2.out]
      go_enter Tryd.func30, Tryd.ntmps30
      go_upto_region 1 with (fail)
      rw [Hw0.out, Hgb.out]
      go_upto_region 3 with (go_at_call 34; refine (isLegal_n r n _).mono ?_; rintro e w1 ⟨rfl, H1⟩; rw [HL.out])
      have P1 : Pq w1.drew g gb s.pR s.pN r n := (P0.out.below H1.out).below (Below.refl _ _).drew
      have B1 : Hid (Below w.heap.size w w1.drew) := (L0.out.trans (H1.out.mono L0.out.size)).drew
      clear b0 b1
      refine wp_region_till (S := fun L W => Pq W g gb s.pR s.pN r n) (by kernel_rfl) P1 (fun hS => ?_)
      refine till_take (i := 0) (v := .pointer (some ⟨g, 0, none⟩)) rfl (by kernel_rfl) (by kernel_rfl) (by kernel_rfl) (fun _ _ _ h => h) (fun L w => Iff.rfl) (Or.inl ⟨by rfl, fun w => by go_simp⟩) hS (fun hSb => ?_)
      simp only [List.getElem_toArray, List.getElem_cons_zero, List.getElem_cons_succ, Act.put, List.setIfInBounds_toArray, List.set_cons_zero, List.set_cons_succ]
      clear hS
      refine till_take (i := 1) (v := .pointer (some ⟨g, 0, none⟩)) rfl (by kernel_rfl) (by kernel_rfl) (by kernel_rfl) (fun _ _ _ h => h) (fun L w => Iff.rfl) (Or.inl ⟨by rfl, fun w => by go_simp⟩) hSb (fun hS => ?_)
      simp only [List.getElem_toArray, List.getElem_cons_zero, List.getElem_cons_succ, Act.put, List.setIfInBounds_toArray, List.set_cons_zero, List.set_cons_succ]
      clear hSb
      refine till_take (i := 2) (v := .pointer (some ⟨g, 1, none⟩)) rfl (by kernel_rfl) (by kernel_rfl) (by kernel_rfl) (fun _ _ _ h => h) (fun L w => Iff.rfl) (Or.inl ⟨by rfl, fun w => by go_simp⟩) hS (fun hSb => ?_)
      simp only [List.getElem_toArray, List.getElem_cons_zero, List.getElem_cons_succ, Act.put, List.setIfInBounds_toArray, List.set_cons_zero, List.set_cons_succ]
      clear hS
      refine till_read (i := 3) (c := 5) (v := bal s.pR s.pN) (T := fun W => Pq W g gb s.pR s.pN r n) rfl rfl (by kernel_rfl) (by kernel_rfl) (by kernel_rfl) (by kernel_rfl) (by kernel_rfl) (fun _ _ _ h => h) (fun L w => Iff.rfl) (fun L w h1 h2 => h2) (Or.inl ⟨by rfl, fun w h => by have q1 := h.c1; have q2 := h.c2; go_simp⟩) hSb (fun hS => ?_)
      simp only [List.getElem_toArray, List.getElem_cons_zero, List.getElem_cons_succ, Act.put, List.setIfInBounds_toArray, List.set_cons_zero, List.set_cons_succ]
      clear hSb
      refine till_read (i := 4) (c := 5) (v := bal r n) (T := fun W => Pq W g gb s.pR s.pN r n) rfl rfl (by kernel_rfl) (by kernel_rfl) (by kernel_rfl) (by kernel_rfl) (by kernel_rfl) (fun _ _ _ h => h) (fun L w => Iff.rfl) (fun L w h1 h2 => h2) (Or.inl ⟨by rfl, fun w h => by have q1 := h.b0; have q2 := h.b1; go_simp⟩) hS (fun hSb => ?_)
      simp only [List.getElem_toArray, List.getElem_cons_zero, List.getElem_cons_succ, Act.put, List.setIfInBounds_toArray, List.set_cons_zero, List.set_cons_succ]
      clear hS
      refine till_one (i := 5) (by kernel_rfl) rfl (fun K hK => ?_)
      simp only [List.getElem_toArray, List.getElem_cons_zero, List.getElem_cons_succ]
      rw [if_pos (by rfl)]
      go_simp
      go_wp2_with (go_at_call 11; refine (above_n s.pR s.pN r n _).mono ?_; rintro e w2 ⟨rfl, H2⟩; rw [EA.out])
      have Z2 : Pq w2 g gb s.pR s.pN r n := hSb.below H2.out
      refine hK.out _ _ (Z2) (fun hS => ?_)
      clear hK K
      try simp only [List.getElem_toArray, List.getElem_cons_zero, List.getElem_cons_succ, Act.put, List.setIfInBounds_toArray, List.set_cons_zero, List.set_cons_succ]
      clear hSb
      refine till_done (by kernel_rfl) ?_ _
      clear hS
      have B2 : Hid (Below w.heap.size w w2) := B1.out.trans (H2.out.mono B1.out.size)
      have A2 := hA.out.below B2.out
      have x1 := Z2.c1
      have x2 := Z2.c2
      have y0 := Z2.b0
      have y1 := Z2.b1
      have f1 := A2.fz
      have HA2 : Hid (Acc w2 84 G g s a m c X) := A2
      clear A2 Z2
      go_wp2
      go_ret
      refine ⟨rfl, ?_⟩
      have C : Ch w2 ((w2.setCell ⟨g, 1, none⟩ (.int .i64 r)).setCell ⟨g, 2, none⟩ (.int .i64 n)) (fun q => q = g) := (Ch.set w2 g 1 _).trans (Ch.set _ g 2 _)
      refine ⟨HA2.out.put ?_ (HA2.out.cms.ch C (fun q h1 _ e => by have := HA2.out.lt; omega)) HA2.out.z HA2.out.e, (Ch.below B2.out).trans C⟩
      rw [set_blk (set_blk HA2.out.blk 1 _) 2 _]
      rfl
  · have HL : Hid (lgl r n = false) := by show _ = _; simpa using hl
    clear hl
    have K : Hid (prk s r n = 2) := prk_no HL.out
    have K2 : Hid (prS s r n = s) := prS_no (by rw [K.out]; decide)
    rw [K.out, K2.out]
    go_enter Tryd.func30, Tryd.ntmps30
    go_upto_region 1 with (fail)
    rw [Hw0.out, Hgb.out]
    go_wp2_with (go_at_call 34; refine (isLegal_n r n _).mono ?_; rintro e w1 ⟨rfl, H1⟩; rw [HL.out]
                 have c0 : w1.cell? ⟨0, 0, none⟩ = some (.iface 102 (.pointer (some (E 0)))) := ((hE.out.below L0.out).below H1.out).c 0 (by omega))
    have B1 : Hid (Below w.heap.size w w1) := L0.out.trans (H1.out.mono L0.out.size)
    go_ret
    exact ⟨rfl, hA.out.below B1.out, Ch.below B1.out⟩
end Go.Proofs.YtdfnjcjpblkmcaaDoor
