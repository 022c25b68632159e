/- The law MacSame walked: it returns true, and changes nothing that was there. -/
import Derived.Test.YthkoidfjmbfoiaaDoorMh
import Derived.Test.YthkoidfjmbfoiaaDoorMj
namespace Go.Proofs.YthkoidfjmbfoiaaDoor
open Go.ChangeShapes Go.WideShapes Go.ChangeAt Go.RowKit
set_option linter.unusedVariables false
set_option linter.unusedSimpArgs false
theorem spell_go (l : List Nat) : ∀ r : ByteArray, ((l.map fun x : Nat => (x : Int)).foldl (fun r n => r.push (UInt8.ofNat n.toNat)) r).data.toList = r.data.toList ++ l.map UInt8.ofNat := by
  induction l with
  | nil => intro r; simp
  | cons x l ih =>
    intro r
    simp only [List.map_cons, List.foldl_cons]
    rw [ih]
    simp [ByteArray.push]
theorem spell_data (l : List Nat) : (spell l).data.toList = l.map UInt8.ofNat := by
  have h := spell_go l ByteArray.empty
  have e : ByteArray.empty.data.toList = [] := rfl
  rw [e, List.nil_append] at h
  exact h
theorem ofNat_back {l : List Nat} (h : ∀ x ∈ l, x < 256) : (l.map UInt8.ofNat).map UInt8.toNat = l := by
  rw [List.map_map]
  conv => rhs; rw [← List.map_id l]
  refine List.map_congr_left fun x hx => ?_
  have := h x hx
  simp
  omega
theorem spell_beq {a b : List Nat} (ha : ∀ x ∈ a, x < 256) (hb : ∀ x ∈ b, x < 256) : ((spell a).toList == (spell b).toList) = sameB a b := by
  rw [ByteArray.toList_eq, ByteArray.toList_eq, spell_data, spell_data]
  by_cases h : a = b
  · subst h; simp [sameB]
  · have h2 : ¬ (a.map UInt8.ofNat = b.map UInt8.ofNat) := fun e => h (by rw [← ofNat_back ha, ← ofNat_back hb, e])
    simp [sameB, h, h2]
theorem sameB_refl (a : List Nat) : sameB a a = true := by simp [sameB]
theorem sameB_more (a : List Nat) : sameB a (a ++ [0]) = false := by
  simp [sameB]
/- appended: a slice's content onto an empty row, then one nought that lies in a block of its own -/
theorem two_apps {w X : World} {B g q n c : Nat} {a : Option Addr} {l : List Nat} (own : X.ownsRow B 5 1 (.slice (some ⟨g, 0, none⟩) 0 0) 0 (([] : List Nat).map bv)) (hq : Blk X q [0]) (hne : q ≠ g) (hS : Sln X a n l) (z : a = none → c = 0) (hB : B ≤ X.heap.size) (bel : Below w.heap.size w X) (hw : w.heap.size ≤ B) (hn : n ≤ 140737488351232) :
    ∃ g1 c1 X1 g2 c2 X2, (Builtin.append_ #[22, 22] 22 #[.slice (some ⟨g, 0, none⟩) 0 0, .slice a n c]).run Tryd.prog X = .ok (.slice (some ⟨g1, 0, none⟩) n c1) X1 ∧ (Builtin.append_ #[22, 22] 22 #[.slice (some ⟨g1, 0, none⟩) n c1, .slice (some ⟨q, 0, none⟩) 1 1]).run Tryd.prog X1 = .ok (.slice (some ⟨g2, 0, none⟩) (n + 1) c2) X2 ∧ Sln X2 (some ⟨g2, 0, none⟩) (n + 1) (l ++ [0]) ∧ Below w.heap.size w X1 ∧ Below w.heap.size w X2 := by
  obtain ⟨g1, c1, X1, r1, o1, gr1⟩ := app_own (c := c) own hS z (by omega) hB
  rw [Nat.zero_add, List.nil_append] at o1
  rw [Nat.zero_add] at r1
  have hb := own_lt own
  have b1 : Below w.heap.size w X1 := bel.grown gr1 bel.size (fun j e => by simp at e; omega)
  have q1 : Blk X1 q [0] := hq.grown gr1 hne
  have s1 := q1.sln (by intro y hy; simp at hy; omega) (by simp)
  have hB1 : B ≤ X1.heap.size := Nat.le_trans hB gr1.size
  obtain ⟨g2, c2, X2, r2, o2, gr2⟩ := app_own (c := 1) o1 s1 (by simp) (by simp; omega) hB1
  have hb1 := own_lt o1
  have b2 : Below w.heap.size w X2 := b1.grown gr2 b1.size (fun j e => by simp at e; omega)
  refine ⟨g1, c1, X1, g2, c2, X2, r1, r2, Row.sln (own_row o2) (own_lt2 o2) (by simp [hS.len]) (fun y hy => ?_) (by have := hS.len; simp; omega), b1, b2⟩
  rcases List.mem_append.1 hy with h | h
  · exact hS.lt y h
  · simp at h; omega
theorem two_appsA {w X : World} {B g n c : Nat} {a : Option Addr} {l : List Nat} (own : X.ownsRow B 5 1 (.slice (some ⟨g, 0, none⟩) 0 0) 0 (([] : List Nat).map bv)) (hS : Sln X a n l) (z : a = none → c = 0) (hB : B ≤ X.heap.size) (bel : Below w.heap.size w X) (hw : w.heap.size ≤ B) (hn : n ≤ 140737488351232) :
    ∃ g1 c1 X1 g2 c2 X2, (Builtin.append_ #[22, 22] 22 #[.slice (some ⟨g, 0, none⟩) 0 0, .slice a n c]).run Tryd.prog X = .ok (.slice (some ⟨g1, 0, none⟩) n c1) X1 ∧ (Builtin.append_ #[22, 22] 22 #[.slice (some ⟨g1, 0, none⟩) n c1, .slice (some ⟨X1.heap.size, 0, none⟩) 1 1]).run Tryd.prog (X1.alloc (.cells #[.int .u8 0] 5)) = .ok (.slice (some ⟨g2, 0, none⟩) (n + 1) c2) X2 ∧ Sln X2 (some ⟨g2, 0, none⟩) (n + 1) (l ++ [0]) ∧ Below w.heap.size w X1 ∧ Below w.heap.size w (X1.alloc (.cells #[.int .u8 0] 5)) ∧ Below w.heap.size w X2 ∧ Sln X1 (some ⟨g1, 0, none⟩) n l := by
  obtain ⟨g1, c1, X1, r1, o1, gr1⟩ := app_own (c := c) own hS z (by omega) hB
  rw [Nat.zero_add, List.nil_append] at o1
  rw [Nat.zero_add] at r1
  have hb := own_lt own
  have b1 : Below w.heap.size w X1 := bel.grown gr1 bel.size (fun j e => by simp at e; omega)
  have b1' : Below w.heap.size w (X1.alloc (.cells #[.int .u8 0] 5)) := b1.alloc b1.size _
  have q1 : Blk (X1.alloc (.cells #[.int .u8 0] 5)) X1.heap.size [0] := heap_alloc_new X1 _
  have s1 := q1.sln (by intro y hy; simp at hy; omega) (by simp)
  have hB1 : B ≤ (X1.alloc (.cells #[.int .u8 0] 5)).heap.size := by have := gr1.size; simp; omega
  obtain ⟨g2, c2, X2, r2, o2, gr2⟩ := app_own (c := 1) (o1.alloc _) s1 (by simp) (by simp; omega) hB1
  have hb1 := own_lt o1
  have b2 : Below w.heap.size w X2 := b1'.grown gr2 b1'.size (fun j e => by simp at e; omega)
  refine ⟨g1, c1, X1, g2, c2, X2, r1, r2, Row.sln (own_row o2) (own_lt2 o2) (by simp [hS.len]) (fun y hy => ?_) (by have := hS.len; simp; omega), b1, b1', b2, Row.sln (own_row o1) (own_lt2 o1) hS.len hS.lt hS.sli.2.1⟩
  rcases List.mem_append.1 hy with h | h
  · exact hS.lt y h
  · simp at h; omega
theorem own_new (X : World) : (X.alloc (.cells #[] 5)).ownsRow X.heap.size 5 1 (.slice (some ⟨X.heap.size, 0, none⟩) 0 0) 0 (([] : List Nat).map bv) := World.ownsRow_made X _ 0 (Nat.le_refl _) (by unfold maxLen; omega) rfl
theorem conv2 {w X : World} {a0 a1 : Option Addr} {n0 c0 n1 c1 : Nat} {l0 l1 : List Nat} (S0 : Hid (Sln w a0 n0 l0)) (S1 : Hid (Sln w a1 n1 l1)) (b : Below w.heap.size w X) : (convert 22 9 (.slice a0 n0 c0)).run Tryd.prog X = .ok (.string (spell l0)) X ∧ (convert 22 9 (.slice a1 n1 c1)).run Tryd.prog X = .ok (.string (spell l1)) X := ⟨conv_n (S0.out.below b), conv_n (S1.out.below b)⟩
set_option maxRecDepth 20000 in
set_option maxHeartbeats 2000000 in
theorem same_law (w : World) {a0 a1 : Option Addr} {n0 c0 n1 c1 : Nat} {l0 l1 : List Nat} (S0 : Hid (Sln w a0 n0 l0)) (z0 : Hid (a0 = none → c0 = 0)) (S1 : Hid (Sln w a1 n1 l1)) (hm : n0 ≤ 140737488351232) (hKs : Hid (Kst w)) (h0 : Hid (0 < w.heap.size)) :
    Calls Tryd.prog 6 #[.slice a0 n0 c0, .slice a1 n1 c1] w fun e w' => e = .returned (.bool true) ∧ Hid (Below w.heap.size w w') := by
  obtain ⟨r, R⟩ : ∃ r, Hid (sameB l0 l1 = r) := ⟨_, rfl⟩
  have hsp : ((spell l0).toList == (spell l1).toList) = r := by rw [spell_beq S0.out.lt S1.out.lt, R.out]
  go_enter Tryd.func6, Tryd.ntmps6
  go_upto_region 3 with (first
    | (go_at_call 14; refine (malive_n _ hKs h0).mono ?_; rintro e w1 ⟨rfl, B1⟩))
  refine wp_region_held (S := fun w' => (convert 22 9 (.slice a0 n0 c0)).run Tryd.prog w' = .ok (.string (spell l0)) w' ∧ (convert 22 9 (.slice a1 n1 c1)).run Tryd.prog w' = .ok (.string (spell l1)) w') (by kernel_rfl) ?_
  obtain ⟨w2, hw2⟩ : ∃ w2, w2 = w1.drewN 1 := ⟨_, rfl⟩
  have B2 : Hid (Below w.heap.size w w2) := by rw [hw2]; exact below_drewN B1.out 1
  have hw3 : ({ heap := w1.heap, tape := w1.tape, drawn := w1.drawn + 1, os := w1.os, output := w1.output } : World) = w2 := hw2.symm
  refine (show _ = w2 from hw3) ▸ ?_
  clear hw2 hw3
  have P2 : Hid (Sln w2 a0 n0 l0) := S0.out.below B2.out
  have Q2 : Hid (Sln w2 a1 n1 l1) := S1.out.below B2.out
  have hS0 : (convert 22 9 (.slice a0 n0 c0)).run Tryd.prog w2 = .ok (.string (spell l0)) w2 ∧ (convert 22 9 (.slice a1 n1 c1)).run Tryd.prog w2 = .ok (.string (spell l1)) w2 := ⟨conv_n P2, conv_n Q2⟩
  refine wpAnyH_take (i := 0) (v := .slice a0 n0 c0) rfl (by kernel_rfl) (by kernel_rfl) (by kernel_rfl) (fun _ _ _ h => h) (Or.inl ⟨by rfl, fun w hSw => by (try dsimp only at hSw); go_simp⟩) (by assumption) ?_
  simp only [List.getElem_toArray, List.getElem_cons_zero, List.getElem_cons_succ, Act.put, List.setIfInBounds_toArray, List.set_cons_zero, List.set_cons_succ]
  refine wpAnyH_take (i := 1) (v := .slice a1 n1 c1) rfl (by kernel_rfl) (by kernel_rfl) (by kernel_rfl) (fun _ _ _ h => h) (Or.inl ⟨by rfl, fun w hSw => by (try dsimp only at hSw); go_simp⟩) (by assumption) ?_
  simp only [List.getElem_toArray, List.getElem_cons_zero, List.getElem_cons_succ, Act.put, List.setIfInBounds_toArray, List.set_cons_zero, List.set_cons_succ]
  refine wpAnyH_take (i := 3) (v := .slice a0 n0 c0) rfl (by kernel_rfl) (by kernel_rfl) (by kernel_rfl) (fun _ _ _ h => h) (Or.inl ⟨by rfl, fun w hSw => by (try dsimp only at hSw); go_simp⟩) (by assumption) ?_
  simp only [List.getElem_toArray, List.getElem_cons_zero, List.getElem_cons_succ, Act.put, List.setIfInBounds_toArray, List.set_cons_zero, List.set_cons_succ]
  refine wpAnyH_take (i := 4) (v := .string (spell l0)) rfl (by kernel_rfl) (by kernel_rfl) (by kernel_rfl) (fun _ _ _ h => h) (Or.inl ⟨by rfl, fun w hSw => by (try dsimp only at hSw); go_simp⟩) (by assumption) ?_
  simp only [List.getElem_toArray, List.getElem_cons_zero, List.getElem_cons_succ, Act.put, List.setIfInBounds_toArray, List.set_cons_zero, List.set_cons_succ]
  refine wpAnyH_take (i := 5) (v := .slice a1 n1 c1) rfl (by kernel_rfl) (by kernel_rfl) (by kernel_rfl) (fun _ _ _ h => h) (Or.inl ⟨by rfl, fun w hSw => by (try dsimp only at hSw); go_simp⟩) (by assumption) ?_
  simp only [List.getElem_toArray, List.getElem_cons_zero, List.getElem_cons_succ, Act.put, List.setIfInBounds_toArray, List.set_cons_zero, List.set_cons_succ]
  refine wpAnyH_take (i := 6) (v := .string (spell l1)) rfl (by kernel_rfl) (by kernel_rfl) (by kernel_rfl) (fun _ _ _ h => h) (Or.inl ⟨by rfl, fun w hSw => by (try dsimp only at hSw); go_simp⟩) (by assumption) ?_
  simp only [List.getElem_toArray, List.getElem_cons_zero, List.getElem_cons_succ, Act.put, List.setIfInBounds_toArray, List.set_cons_zero, List.set_cons_succ]
  refine wpAnyH_take (i := 7) (v := .bool r) rfl (by kernel_rfl) (by kernel_rfl) (by kernel_rfl) (fun _ _ _ h => h) (Or.inl ⟨by rfl, fun w hSw => by (try dsimp only at hSw); go_simp⟩) (by assumption) ?_
  simp only [List.getElem_toArray, List.getElem_cons_zero, List.getElem_cons_succ, Act.put, List.setIfInBounds_toArray, List.set_cons_zero, List.set_cons_succ]
  refine wpAnyH_ready (rs := [2]) (by kernel_rfl) (by simp) (AllReadyH.cons rfl (fun K hK => ?_) AllReadyH.nil)
  simp only [List.getElem_toArray, List.getElem_cons_zero, List.getElem_cons_succ]
  rw [if_pos (by rfl)]
  go_simp
  go_wp2_with (go_at_call 19; refine (same_n P2 Q2).mono ?_; rintro e w3 ⟨rfl, h9⟩; rw [h9.out]; clear h9)
  rw [R.out]
  refine hK.out _ _ (conv2 S0 S1 B2.out) (fun hS_ => ?_)
  clear hK K
  refine wpAnyH_take (i := 8) (v := .bool true) rfl (by kernel_rfl) (by kernel_rfl) (by kernel_rfl) (fun _ _ _ h => h) (Or.inl ⟨by rfl, fun w hSw => by (try dsimp only at hSw); go_simp⟩) (by assumption) ?_
  simp only [List.getElem_toArray, List.getElem_cons_zero, List.getElem_cons_succ, Act.put, List.setIfInBounds_toArray, List.set_cons_zero, List.set_cons_succ]
  refine wpAnyH_take (i := 9) (v := .bool true) rfl (by kernel_rfl) (by kernel_rfl) (by kernel_rfl) (fun _ _ _ h => h) (Or.inl ⟨by rfl, fun w hSw => by (try dsimp only at hSw); go_simp⟩) (by assumption) ?_
  simp only [List.getElem_toArray, List.getElem_cons_zero, List.getElem_cons_succ, Act.put, List.setIfInBounds_toArray, List.set_cons_zero, List.set_cons_succ]
  refine wpAnyH_take (i := 10) (v := .slice a0 n0 c0) rfl (by kernel_rfl) (by kernel_rfl) (by kernel_rfl) (fun _ _ _ h => h) (Or.inl ⟨by rfl, fun w hSw => by (try dsimp only at hSw); go_simp⟩) (by assumption) ?_
  simp only [List.getElem_toArray, List.getElem_cons_zero, List.getElem_cons_succ, Act.put, List.setIfInBounds_toArray, List.set_cons_zero, List.set_cons_succ]
  refine wpAnyH_take (i := 12) (v := .slice a0 n0 c0) rfl (by kernel_rfl) (by kernel_rfl) (by kernel_rfl) (fun _ _ _ h => h) (Or.inl ⟨by rfl, fun w hSw => by (try dsimp only at hSw); go_simp⟩) (by assumption) ?_
  simp only [List.getElem_toArray, List.getElem_cons_zero, List.getElem_cons_succ, Act.put, List.setIfInBounds_toArray, List.set_cons_zero, List.set_cons_succ]
  have B3 : Hid (Below w.heap.size w (w2.alloc (.cells #[] 5))) := B2.out.alloc B2.out.size _
  obtain ⟨g4, c4, w4, ap4, o4, gr4⟩ := app_own (c := c0) (own_new w2) (S0.out.below B3.out) z0.out (by omega) (by simp)
  rw [Nat.zero_add, List.nil_append] at o4
  rw [Nat.zero_add] at ap4
  have B4 : Hid (Below w.heap.size w w4) := B3.out.grown gr4 B3.out.size (fun j e => by simp at e; have := B2.out.size; omega)
  have P4 : Hid (Sln w4 a0 n0 l0) := S0.out.below B4.out
  have S4 : Hid (Sln w4 (some ⟨g4, 0, none⟩) n0 l0) := Row.sln (own_row o4) (own_lt2 o4) S0.out.len S0.out.lt S0.out.sli.2.1
  have AP4 : Hid ((Builtin.append_ #[22, 22] 22 #[.slice (some ⟨w2.heap.size, 0, none⟩) 0 0, .slice a0 n0 c0]).run Tryd.prog (w2.alloc (.cells #[] 5)) = .ok (.slice (some ⟨g4, 0, none⟩) n0 c4) w4) := ap4
  clear o4 gr4 ap4
  refine wpAnyH_ready (rs := [11]) (by kernel_rfl) (by simp) (AllReadyH.cons rfl (fun K hK => ?_) AllReadyH.nil)
  simp only [List.getElem_toArray, List.getElem_cons_zero, List.getElem_cons_succ]
  rw [if_pos (by rfl)]
  go_simp
  refine hK.out _ _ (conv2 S0 S1 B3.out) (fun hS_ => ?_)
  clear hK K
  refine wpAnyH_ready (rs := [13]) (by kernel_rfl) (by simp) (AllReadyH.cons rfl (fun K hK => ?_) AllReadyH.nil)
  simp only [List.getElem_toArray, List.getElem_cons_zero, List.getElem_cons_succ]
  rw [if_pos (by rfl)]
  refine Lib.wp_append_run _ (.tmp 18) (.tmp 19) 22 22 (by rfl) _ _ (by rfl) (by rfl) _ _ AP4.out (hK.out _ _ (conv2 S0 S1 B4.out) (fun hS_ => ?_))
  simp only [List.getElem_toArray, List.getElem_cons_zero, List.getElem_cons_succ, Act.put, List.setIfInBounds_toArray, List.set_cons_zero, List.set_cons_succ]
  clear hK K
  refine wpAnyH_ready (rs := [14]) (by kernel_rfl) (by simp) (AllReadyH.cons rfl (fun K hK => ?_) AllReadyH.nil)
  simp only [List.getElem_toArray, List.getElem_cons_zero, List.getElem_cons_succ]
  rw [if_pos (by rfl)]
  go_simp
  go_wp2_with (go_at_call 19; refine (same_n P4 S4).mono ?_; rintro e w3 ⟨rfl, h9⟩; rw [h9.out]; clear h9)
  rw [sameB_refl]
  refine hK.out _ _ (conv2 S0 S1 B4.out) (fun hS_ => ?_)
  clear hK K
  refine wpAnyH_take (i := 15) (v := .bool true) rfl (by kernel_rfl) (by kernel_rfl) (by kernel_rfl) (fun _ _ _ h => h) (Or.inl ⟨by rfl, fun w hSw => by (try dsimp only at hSw); go_simp⟩) (by assumption) ?_
  simp only [List.getElem_toArray, List.getElem_cons_zero, List.getElem_cons_succ, Act.put, List.setIfInBounds_toArray, List.set_cons_zero, List.set_cons_succ]
  refine wpAnyH_take (i := 16) (v := .bool true) rfl (by kernel_rfl) (by kernel_rfl) (by kernel_rfl) (fun _ _ _ h => h) (Or.inl ⟨by rfl, fun w hSw => by (try dsimp only at hSw); go_simp⟩) (by assumption) ?_
  simp only [List.getElem_toArray, List.getElem_cons_zero, List.getElem_cons_succ, Act.put, List.setIfInBounds_toArray, List.set_cons_zero, List.set_cons_succ]
  refine wpAnyH_take (i := 17) (v := .slice a0 n0 c0) rfl (by kernel_rfl) (by kernel_rfl) (by kernel_rfl) (fun _ _ _ h => h) (Or.inl ⟨by rfl, fun w hSw => by (try dsimp only at hSw); go_simp⟩) (by assumption) ?_
  simp only [List.getElem_toArray, List.getElem_cons_zero, List.getElem_cons_succ, Act.put, List.setIfInBounds_toArray, List.set_cons_zero, List.set_cons_succ]
  refine wpAnyH_take (i := 19) (v := .slice a0 n0 c0) rfl (by kernel_rfl) (by kernel_rfl) (by kernel_rfl) (fun _ _ _ h => h) (Or.inl ⟨by rfl, fun w hSw => by (try dsimp only at hSw); go_simp⟩) (by assumption) ?_
  simp only [List.getElem_toArray, List.getElem_cons_zero, List.getElem_cons_succ, Act.put, List.setIfInBounds_toArray, List.set_cons_zero, List.set_cons_succ]
  refine wpAnyH_ready (rs := [18, 21]) (by kernel_rfl) (by simp) (AllReadyH.cons rfl (fun K hK => ?_) (AllReadyH.cons rfl (fun K hK => ?_) AllReadyH.nil))
  · simp only [List.getElem_toArray, List.getElem_cons_zero, List.getElem_cons_succ]
    rw [if_pos (by rfl)]
    have B5 : Hid (Below w.heap.size w (w4.alloc (.cells #[] 5))) := B4.out.alloc B4.out.size _
    go_simp
    refine hK.out _ _ (conv2 S0 S1 B5.out) (fun hS_ => ?_)
    clear hK K
    refine wpAnyH_ready (rs := [20, 21]) (by kernel_rfl) (by simp) (AllReadyH.cons rfl (fun K hK => ?_) (AllReadyH.cons rfl (fun K hK => ?_) AllReadyH.nil))
    · simp only [List.getElem_toArray, List.getElem_cons_zero, List.getElem_cons_succ]
      rw [if_pos (by rfl)]
      obtain ⟨g1, d1, X1, g2, d2, X2, r1, r2, SX, b1, b1', b2, _⟩ := two_appsA (w := w) (c := c0) (own_new w4) (S0.out.below B5.out) z0.out (by simp) B5.out B4.out.size hm
      have SX' : Hid (Sln X2 (some ⟨g2, 0, none⟩) (n0 + 1) (l0 ++ [0])) := SX
      have PX : Hid (Sln X2 a0 n0 l0) := S0.out.below b2
      refine Lib.wp_append_run _ (.tmp 25) (.tmp 26) 22 22 (by rfl) _ _ (by rfl) (by rfl) _ _ r1 (hK.out _ _ (conv2 S0 S1 b1) (fun hS_ => ?_))
      simp only [List.getElem_toArray, List.getElem_cons_zero, List.getElem_cons_succ, Act.put, List.setIfInBounds_toArray, List.set_cons_zero, List.set_cons_succ]
      clear hK K
      refine wpAnyH_ready (rs := [21]) (by kernel_rfl) (by simp) (AllReadyH.cons rfl (fun K hK => ?_) AllReadyH.nil)
      simp only [List.getElem_toArray, List.getElem_cons_zero, List.getElem_cons_succ]
      rw [if_pos (by rfl)]
      go_simp
      refine hK.out _ _ (conv2 S0 S1 b1') (fun hS_ => ?_)
      clear hK K
      refine wpAnyH_ready (rs := [22]) (by kernel_rfl) (by simp) (AllReadyH.cons rfl (fun K hK => ?_) AllReadyH.nil)
      simp only [List.getElem_toArray, List.getElem_cons_zero, List.getElem_cons_succ]
      rw [if_pos (by rfl)]
      refine Lib.wp_append_run _ (.tmp 27) (.tmp 28) 22 22 (by rfl) _ _ (by rfl) (by rfl) _ _ r2 (hK.out _ _ (conv2 S0 S1 b2) (fun hS_ => ?_))
      simp only [List.getElem_toArray, List.getElem_cons_zero, List.getElem_cons_succ, Act.put, List.setIfInBounds_toArray, List.set_cons_zero, List.set_cons_succ]
      clear hK K
      refine wpAnyH_ready (rs := [23]) (by kernel_rfl) (by simp) (AllReadyH.cons rfl (fun K hK => ?_) AllReadyH.nil)
      simp only [List.getElem_toArray, List.getElem_cons_zero, List.getElem_cons_succ]
      rw [if_pos (by rfl)]
      go_simp
      go_wp2_with (go_at_call 19; refine (same_n PX SX').mono ?_; rintro e w3 ⟨rfl, h9⟩; rw [h9.out]; clear h9)
      rw [sameB_more]
      refine hK.out _ _ (conv2 S0 S1 b2) (fun hS_ => ?_)
      clear hK K
      refine wpAnyH_take (i := 24) (v := .bool true) rfl (by kernel_rfl) (by kernel_rfl) (by kernel_rfl) (fun _ _ _ h => h) (Or.inl ⟨by rfl, fun w hSw => by (try dsimp only at hSw); go_simp⟩) (by assumption) ?_
      simp only [List.getElem_toArray, List.getElem_cons_zero, List.getElem_cons_succ, Act.put, List.setIfInBounds_toArray, List.set_cons_zero, List.set_cons_succ]
      refine wpAnyH_take (i := 25) (v := .bool true) rfl (by kernel_rfl) (by kernel_rfl) (by kernel_rfl) (fun _ _ _ h => h) (Or.inl ⟨by rfl, fun w hSw => by (try dsimp only at hSw); go_simp⟩) (by assumption) ?_
      simp only [List.getElem_toArray, List.getElem_cons_zero, List.getElem_cons_succ, Act.put, List.setIfInBounds_toArray, List.set_cons_zero, List.set_cons_succ]
      refine wpAnyH_take (i := 26) (v := .bool true) rfl (by kernel_rfl) (by kernel_rfl) (by kernel_rfl) (fun _ _ _ h => h) (Or.inl ⟨by rfl, fun w hSw => by (try dsimp only at hSw); go_simp⟩) (by assumption) ?_
      simp only [List.getElem_toArray, List.getElem_cons_zero, List.getElem_cons_succ, Act.put, List.setIfInBounds_toArray, List.set_cons_zero, List.set_cons_succ]
      refine wpAnyH_done (by kernel_rfl) ?_ _
      have BX : Hid (Below w.heap.size w X2) := b2
      clear r1 r2 b1 b2 SX
      go_wp2
      go_ret
      exact ⟨rfl, BX.out⟩
    · simp only [List.getElem_toArray, List.getElem_cons_zero, List.getElem_cons_succ]
      rw [if_pos (by rfl)]
      have B6 : Hid (Below w.heap.size w ((w4.alloc (.cells #[] 5)).alloc (.cells #[.int .u8 0] 5))) := B5.out.alloc B5.out.size _
      have z6 : (w4.alloc (.cells #[] 5)).heap.size = w4.heap.size + 1 := by simp
      have q6 : Blk ((w4.alloc (.cells #[] 5)).alloc (.cells #[.int .u8 0] 5)) (w4.heap.size + 1) [0] := by rw [← z6]; exact heap_alloc_new (w4.alloc (.cells #[] 5)) _
      obtain ⟨g1, d1, X1, g2, d2, X2, r1, r2, SX, b1, b2⟩ := two_apps (w := w) (c := c0) ((own_new w4).alloc (.cells #[.int .u8 0] 5)) q6 (by omega) (S0.out.below B6.out) z0.out (by simp; omega) B6.out B4.out.size hm
      have SX' : Hid (Sln X2 (some ⟨g2, 0, none⟩) (n0 + 1) (l0 ++ [0])) := SX
      have PX : Hid (Sln X2 a0 n0 l0) := S0.out.below b2
      go_simp
      refine hK.out _ _ (conv2 S0 S1 B6.out) (fun hS_ => ?_)
      clear hK K
      refine wpAnyH_ready (rs := [20]) (by kernel_rfl) (by simp) (AllReadyH.cons rfl (fun K hK => ?_) AllReadyH.nil)
      simp only [List.getElem_toArray, List.getElem_cons_zero, List.getElem_cons_succ]
      rw [if_pos (by rfl)]
      refine Lib.wp_append_run _ (.tmp 25) (.tmp 26) 22 22 (by rfl) _ _ (by rfl) (by rfl) _ _ r1 (hK.out _ _ (conv2 S0 S1 b1) (fun hS_ => ?_))
      simp only [List.getElem_toArray, List.getElem_cons_zero, List.getElem_cons_succ, Act.put, List.setIfInBounds_toArray, List.set_cons_zero, List.set_cons_succ]
      clear hK K
      refine wpAnyH_ready (rs := [22]) (by kernel_rfl) (by simp) (AllReadyH.cons rfl (fun K hK => ?_) AllReadyH.nil)
      simp only [List.getElem_toArray, List.getElem_cons_zero, List.getElem_cons_succ]
      rw [if_pos (by rfl)]
      refine Lib.wp_append_run _ (.tmp 27) (.tmp 28) 22 22 (by rfl) _ _ (by rfl) (by rfl) _ _ r2 (hK.out _ _ (conv2 S0 S1 b2) (fun hS_ => ?_))
      simp only [List.getElem_toArray, List.getElem_cons_zero, List.getElem_cons_succ, Act.put, List.setIfInBounds_toArray, List.set_cons_zero, List.set_cons_succ]
      clear hK K
      refine wpAnyH_ready (rs := [23]) (by kernel_rfl) (by simp) (AllReadyH.cons rfl (fun K hK => ?_) AllReadyH.nil)
      simp only [List.getElem_toArray, List.getElem_cons_zero, List.getElem_cons_succ]
      rw [if_pos (by rfl)]
      go_simp
      go_wp2_with (go_at_call 19; refine (same_n PX SX').mono ?_; rintro e w3 ⟨rfl, h9⟩; rw [h9.out]; clear h9)
      rw [sameB_more]
      refine hK.out _ _ (conv2 S0 S1 b2) (fun hS_ => ?_)
      clear hK K
      refine wpAnyH_take (i := 24) (v := .bool true) rfl (by kernel_rfl) (by kernel_rfl) (by kernel_rfl) (fun _ _ _ h => h) (Or.inl ⟨by rfl, fun w hSw => by (try dsimp only at hSw); go_simp⟩) (by assumption) ?_
      simp only [List.getElem_toArray, List.getElem_cons_zero, List.getElem_cons_succ, Act.put, List.setIfInBounds_toArray, List.set_cons_zero, List.set_cons_succ]
      refine wpAnyH_take (i := 25) (v := .bool true) rfl (by kernel_rfl) (by kernel_rfl) (by kernel_rfl) (fun _ _ _ h => h) (Or.inl ⟨by rfl, fun w hSw => by (try dsimp only at hSw); go_simp⟩) (by assumption) ?_
      simp only [List.getElem_toArray, List.getElem_cons_zero, List.getElem_cons_succ, Act.put, List.setIfInBounds_toArray, List.set_cons_zero, List.set_cons_succ]
      refine wpAnyH_take (i := 26) (v := .bool true) rfl (by kernel_rfl) (by kernel_rfl) (by kernel_rfl) (fun _ _ _ h => h) (Or.inl ⟨by rfl, fun w hSw => by (try dsimp only at hSw); go_simp⟩) (by assumption) ?_
      simp only [List.getElem_toArray, List.getElem_cons_zero, List.getElem_cons_succ, Act.put, List.setIfInBounds_toArray, List.set_cons_zero, List.set_cons_succ]
      refine wpAnyH_done (by kernel_rfl) ?_ _
      have BX : Hid (Below w.heap.size w X2) := b2
      clear r1 r2 b1 b2 SX
      go_wp2
      go_ret
      exact ⟨rfl, BX.out⟩
  · simp only [List.getElem_toArray, List.getElem_cons_zero, List.getElem_cons_succ]
    rw [if_pos (by rfl)]
    have B5 : Hid (Below w.heap.size w (w4.alloc (.cells #[.int .u8 0] 5))) := B4.out.alloc B4.out.size _
    have B6 : Hid (Below w.heap.size w ((w4.alloc (.cells #[.int .u8 0] 5)).alloc (.cells #[] 5))) := B5.out.alloc B5.out.size _
    have z6 : (w4.alloc (.cells #[.int .u8 0] 5)).heap.size = w4.heap.size + 1 := by simp
    have q5 : Blk (w4.alloc (.cells #[.int .u8 0] 5)) w4.heap.size [0] := heap_alloc_new w4 _
    have o6 := own_new (w4.alloc (.cells #[.int .u8 0] 5))
    rw [z6] at o6
    obtain ⟨g1, d1, X1, g2, d2, X2, r1, r2, SX, b1, b2⟩ := two_apps (w := w) (c := c0) o6 (q5.alloc (.cells #[] 5)) (by omega) (S0.out.below B6.out) z0.out (by simp) B6.out (by have := B4.out.size; omega) hm
    have SX' : Hid (Sln X2 (some ⟨g2, 0, none⟩) (n0 + 1) (l0 ++ [0])) := SX
    have PX : Hid (Sln X2 a0 n0 l0) := S0.out.below b2
    go_simp
    refine hK.out _ _ (conv2 S0 S1 B5.out) (fun hS_ => ?_)
    clear hK K
    refine wpAnyH_ready (rs := [18]) (by kernel_rfl) (by simp) (AllReadyH.cons rfl (fun K hK => ?_) AllReadyH.nil)
    simp only [List.getElem_toArray, List.getElem_cons_zero, List.getElem_cons_succ]
    rw [if_pos (by rfl)]
    go_simp
    refine hK.out _ _ (conv2 S0 S1 B6.out) (fun hS_ => ?_)
    clear hK K
    refine wpAnyH_ready (rs := [20]) (by kernel_rfl) (by simp) (AllReadyH.cons rfl (fun K hK => ?_) AllReadyH.nil)
    simp only [List.getElem_toArray, List.getElem_cons_zero, List.getElem_cons_succ]
    rw [if_pos (by rfl)]
    refine Lib.wp_append_run _ (.tmp 25) (.tmp 26) 22 22 (by rfl) _ _ (by rfl) (by rfl) _ _ r1 (hK.out _ _ (conv2 S0 S1 b1) (fun hS_ => ?_))
    simp only [List.getElem_toArray, List.getElem_cons_zero, List.getElem_cons_succ, Act.put, List.setIfInBounds_toArray, List.set_cons_zero, List.set_cons_succ]
    clear hK K
    refine wpAnyH_ready (rs := [22]) (by kernel_rfl) (by simp) (AllReadyH.cons rfl (fun K hK => ?_) AllReadyH.nil)
    simp only [List.getElem_toArray, List.getElem_cons_zero, List.getElem_cons_succ]
    rw [if_pos (by rfl)]
    refine Lib.wp_append_run _ (.tmp 27) (.tmp 28) 22 22 (by rfl) _ _ (by rfl) (by rfl) _ _ r2 (hK.out _ _ (conv2 S0 S1 b2) (fun hS_ => ?_))
    simp only [List.getElem_toArray, List.getElem_cons_zero, List.getElem_cons_succ, Act.put, List.setIfInBounds_toArray, List.set_cons_zero, List.set_cons_succ]
    clear hK K
    refine wpAnyH_ready (rs := [23]) (by kernel_rfl) (by simp) (AllReadyH.cons rfl (fun K hK => ?_) AllReadyH.nil)
    simp only [List.getElem_toArray, List.getElem_cons_zero, List.getElem_cons_succ]
    rw [if_pos (by rfl)]
    go_simp
    go_wp2_with (go_at_call 19; refine (same_n PX SX').mono ?_; rintro e w3 ⟨rfl, h9⟩; rw [h9.out]; clear h9)
    rw [sameB_more]
    refine hK.out _ _ (conv2 S0 S1 b2) (fun hS_ => ?_)
    clear hK K
    refine wpAnyH_take (i := 24) (v := .bool true) rfl (by kernel_rfl) (by kernel_rfl) (by kernel_rfl) (fun _ _ _ h => h) (Or.inl ⟨by rfl, fun w hSw => by (try dsimp only at hSw); go_simp⟩) (by assumption) ?_
    simp only [List.getElem_toArray, List.getElem_cons_zero, List.getElem_cons_succ, Act.put, List.setIfInBounds_toArray, List.set_cons_zero, List.set_cons_succ]
    refine wpAnyH_take (i := 25) (v := .bool true) rfl (by kernel_rfl) (by kernel_rfl) (by kernel_rfl) (fun _ _ _ h => h) (Or.inl ⟨by rfl, fun w hSw => by (try dsimp only at hSw); go_simp⟩) (by assumption) ?_
    simp only [List.getElem_toArray, List.getElem_cons_zero, List.getElem_cons_succ, Act.put, List.setIfInBounds_toArray, List.set_cons_zero, List.set_cons_succ]
    refine wpAnyH_take (i := 26) (v := .bool true) rfl (by kernel_rfl) (by kernel_rfl) (by kernel_rfl) (fun _ _ _ h => h) (Or.inl ⟨by rfl, fun w hSw => by (try dsimp only at hSw); go_simp⟩) (by assumption) ?_
    simp only [List.getElem_toArray, List.getElem_cons_zero, List.getElem_cons_succ, Act.put, List.setIfInBounds_toArray, List.set_cons_zero, List.set_cons_succ]
    refine wpAnyH_done (by kernel_rfl) ?_ _
    have BX : Hid (Below w.heap.size w X2) := b2
    clear r1 r2 b1 b2 SX
    go_wp2
    go_ret
    exact ⟨rfl, BX.out⟩
end Go.Proofs.YthkoidfjmbfoiaaDoor
