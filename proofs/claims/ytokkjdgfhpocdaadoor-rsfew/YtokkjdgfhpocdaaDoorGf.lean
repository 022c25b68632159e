/- The three lists that RsFew makes: one shard too few, one shard twice, one shard too long. -/
import Derived.Test.YtokkjdgfhpocdaaDoorGe
namespace Go.Proofs.YtokkjdgfhpocdaaDoor
open Go.ChangeShapes Go.WideShapes Go.ChangeAt Go.RowKit
set_option linter.unusedVariables false
set_option linter.unusedSimpArgs false
theorem app_T2 {w : World} {B g cap b off m c nA nR : Nat} {A X : List Tr} (own : Oro w B g cap A) (hX : Lie w b off X) (ok : Ok w X) (hA : A.length = nA) (hm : X.length = m) (hR : nA + m = nR) (hB : B ≤ w.heap.size) (hn : nR ≤ 1000) :
    ∃ g' cap' w', (Builtin.append_ #[43, 43] 43 #[.slice (some ⟨g, 0, none⟩) nA cap, .slice (some ⟨b, off, none⟩) m c]).run Tryd.prog w = .ok (.slice (some ⟨g', 0, none⟩) nR cap') w' ∧ Oro w' B g' cap' (A ++ X) ∧ w.grownBy w' (some g) := by
  subst hA
  subst hR
  exact app_T own hX ok hm hB (by omega)
theorem Lie.grown {w w' : World} {b off g : Nat} {T : List Tr} (h : Lie w b off T) (hg : w.grownBy w' (some g)) (hb : b ≠ g) : Lie w' b off T := fun j u hu => hg.cell (h j u hu) (by intro e; simp at e; exact hb e)
theorem Lie.alloc {w : World} {b off : Nat} {T : List Tr} (h : Lie w b off T) (o : Obj) : Lie (w.alloc o) b off T := h.below ((Below.refl _ _).alloc (Nat.le_refl _) o)
theorem lie_one (w : World) (z : Int) (v : Value) (l : List Nat) : Lie (w.alloc (.cells #[.int .i64 z, v] 54)) w.heap.size 0 [(z, v, l)] := by
  intro j u hu
  have hj : j < 2 := by
    have := (List.getElem?_eq_some_iff.1 hu).1
    simpa [cel] using this
  have b1 : (w.alloc (.cells #[.int .i64 z, v] 54)).heap[w.heap.size]? = some (.cells #[.int .i64 z, v] 54 (0, 0)) := by
    show (w.heap.push _)[w.heap.size]? = _
    simp
  simp only [World.cell?, b1]
  match j, hj with
  | 0, _ => simpa [cel] using hu
  | 1, _ => simpa [cel] using hu
theorem Lie.take {w : World} {b off : Nat} {T : List Tr} (h : Lie w b off T) (d : Nat) (hd : d ≤ T.length) : Lie w b off (T.take d) := by
  intro j u hu
  rw [cel_take T d hd, List.getElem?_take] at hu
  split at hu
  · exact h j u hu
  · cases hu
theorem Lie.drop {w : World} {b off : Nat} {T : List Tr} (h : Lie w b off T) (d : Nat) (hd : d ≤ T.length) : Lie w b (off + d * 2) (T.drop d) := by
  intro j u hu
  rw [cel_drop T d hd, List.getElem?_drop] at hu
  have := h _ _ hu
  rw [Nat.add_assoc]
  exact this
theorem Ok.take {w : World} {T : List Tr} (h : Ok w T) (d : Nat) : Ok w (T.take d) := fun e he => h e (List.mem_of_mem_take he)
theorem Ok.drop {w : World} {T : List Tr} (h : Ok w T) (d : Nat) : Ok w (T.drop d) := fun e he => h e (List.mem_of_mem_drop he)
/- what a list that the call made is, in a later world -/
structure Ml (W w : World) (g cap : Nat) (T : List Tr) : Prop where
  own : Oro w W.heap.size g cap T
  ok : Ok w T
  bel : Below W.heap.size W w
theorem Ml.shd {W w : World} {g cap n : Nat} {T : List Tr} (h : Ml W w g cap T) (hn : T.length = n) (h2 : n ≤ 1000) : Shd w (some ⟨g, 0, none⟩) n (lst T) := by
  subst hn
  exact h.own.lie.shd h.ok h2
/- too few -/
theorem few_T {W : World} {b off o2 c d D k n1 : Nat} {T : List Tr} (HL : Lie W b off T) (HO : Ok W T) (HK : T.length = k) (hd : d < k) (hD : D = d + 1) (hk : k ≤ 16) (ho : k = D ∨ o2 = off + D * 2) (hn1 : n1 + 1 = k) :
    ∃ g1 cap1 w1 g2 cap2 w2, (Builtin.append_ #[43, 43] 43 #[.slice (some ⟨W.heap.size, 0, none⟩) 0 0, .slice (some ⟨b, off, none⟩) d c]).run Tryd.prog (W.alloc (.cells #[] 54)) = .ok (.slice (some ⟨g1, 0, none⟩) d cap1) w1 ∧
      (Builtin.append_ #[43, 43] 43 #[.slice (some ⟨g1, 0, none⟩) d cap1, .slice (some ⟨b, o2, none⟩) (k - D) (c - D)]).run Tryd.prog w1 = .ok (.slice (some ⟨g2, 0, none⟩) n1 cap2) w2 ∧ Below W.heap.size W w1 ∧ Ml W w2 g2 cap2 (T.take d ++ T.drop D) := by
  have B0 : Below W.heap.size W (W.alloc (.cells #[] 54)) := (Below.refl _ _).alloc (Nat.le_refl _) _
  obtain ⟨g1, cap1, w1, r1, own1, gr1⟩ := app_T2 (c := c) (nA := 0) (m := d) (nR := d) (Oro.new W W.heap.size (Nat.le_refl _)) ((HL.take d (by omega)).below B0) ((HO.take d).below B0) rfl (by simp; omega) (by omega) B0.size (by omega)
  have B1 : Below W.heap.size W w1 := B0.grown gr1 B0.size (fun y e => by simp at e; omega)
  have HL2 : Lie W b o2 (T.drop D) := by
    rcases ho with h | h
    · have : T.drop D = [] := List.drop_eq_nil_of_le (by omega)
      rw [this]
      intro j u hu
      simp [cel] at hu
    · rw [h]; exact HL.drop D (by omega)
  obtain ⟨g2, cap2, w2, r2, own2, gr2⟩ := app_T2 (c := c - D) (nA := d) (m := k - D) (nR := n1) own1 (HL2.below B1) ((HO.drop D).below B1) (by simp; omega) (by simp; omega) (by omega) B1.size (by omega)
  have B2 : Below W.heap.size W w2 := B1.grown gr2 B1.size (fun y e => by simp at e; have := own1.lt; omega)
  refine ⟨g1, cap1, w1, g2, cap2, w2, r1, r2, B1, ?_, ?_, B2⟩
  · simpa using own2
  · exact ((HO.take d).append (HO.drop D)).below B2
/- one twice: three orders -/
theorem tw_A {W : World} {gF cF cap n1 k : Nat} {F : List Tr} {z : Int} {v : Value} {l : List Nat} (HL : Lie W gF 0 F) (HO : Ok W F) (HF : F.length = n1) (hk : n1 + 1 = k) (h16 : k ≤ 16) (HE : Vs W (z, v, l)) :
    ∃ g1 cap1 w1 g2 cap2 w2, (Builtin.append_ #[43, 43] 43 #[.slice (some ⟨W.heap.size, 0, none⟩) 0 0, .slice (some ⟨gF, 0, none⟩) n1 cF]).run Tryd.prog (W.alloc (.cells #[] 54)) = .ok (.slice (some ⟨g1, 0, none⟩) n1 cap1) w1 ∧
      (Builtin.append_ #[43, 43] 43 #[.slice (some ⟨g1, 0, none⟩) n1 cap1, .slice (some ⟨w1.heap.size, 0, none⟩) 1 1]).run Tryd.prog (w1.alloc (.cells #[.int .i64 z, v] 54)) = .ok (.slice (some ⟨g2, 0, none⟩) k cap2) w2 ∧ Below W.heap.size W w1 ∧ Ml W w2 g2 cap2 (F ++ [(z, v, l)]) := by
  have B0 : Below W.heap.size W (W.alloc (.cells #[] 54)) := (Below.refl _ _).alloc (Nat.le_refl _) _
  obtain ⟨g1, cap1, w1, r1, own1, gr1⟩ := app_T2 (c := cF) (nA := 0) (m := n1) (nR := n1) (Oro.new W W.heap.size (Nat.le_refl _)) (HL.below B0) (HO.below B0) rfl HF (by omega) B0.size (by omega)
  rw [List.nil_append] at own1
  have B1 : Below W.heap.size W w1 := B0.grown gr1 B0.size (fun y e => by simp at e; omega)
  have B1' : Below W.heap.size W (w1.alloc (.cells #[.int .i64 z, v] 54)) := B1.alloc B1.size _
  obtain ⟨g2, cap2, w2, r2, own2, gr2⟩ := app_T2 (c := 1) (nA := n1) (m := 1) (nR := k) (own1.alloc (.cells #[.int .i64 z, v] 54)) (lie_one w1 z v l) (fun e he => by simp at he; subst he; exact HE.below B1') HF rfl hk B1'.size (by omega)
  have B2 : Below W.heap.size W w2 := B1'.grown gr2 B1'.size (fun y e => by simp at e; have := own1.lt; omega)
  exact ⟨g1, cap1, w1, g2, cap2, w2, r1, r2, B1, own2, (HO.below B2).append (fun e he => by simp at he; subst he; exact HE.below B2), B2⟩
theorem tw_B {W : World} {gF cF cap n1 k : Nat} {F : List Tr} {z : Int} {v : Value} {l : List Nat} (HL : Lie W gF 0 F) (HO : Ok W F) (HF : F.length = n1) (hk : n1 + 1 = k) (h16 : k ≤ 16) (HE : Vs W (z, v, l)) :
    ∃ g1 cap1 w1 g2 cap2 w2, (Builtin.append_ #[43, 43] 43 #[.slice (some ⟨W.heap.size, 0, none⟩) 0 0, .slice (some ⟨gF, 0, none⟩) n1 cF]).run Tryd.prog ((W.alloc (.cells #[] 54)).alloc (.cells #[.int .i64 z, v] 54)) = .ok (.slice (some ⟨g1, 0, none⟩) n1 cap1) w1 ∧
      (Builtin.append_ #[43, 43] 43 #[.slice (some ⟨g1, 0, none⟩) n1 cap1, .slice (some ⟨W.heap.size + 1, 0, none⟩) 1 1]).run Tryd.prog w1 = .ok (.slice (some ⟨g2, 0, none⟩) k cap2) w2 ∧ Below W.heap.size W w1 ∧ Ml W w2 g2 cap2 (F ++ [(z, v, l)]) := by
  have B0 : Below W.heap.size W (W.alloc (.cells #[] 54)) := (Below.refl _ _).alloc (Nat.le_refl _) _
  have B0' : Below W.heap.size W ((W.alloc (.cells #[] 54)).alloc (.cells #[.int .i64 z, v] 54)) := B0.alloc B0.size _
  have z6 : (W.alloc (.cells #[] 54)).heap.size = W.heap.size + 1 := by simp
  have L1 := lie_one (W.alloc (.cells #[] 54)) z v l
  rw [z6] at L1
  obtain ⟨g1, cap1, w1, r1, own1, gr1⟩ := app_T2 (c := cF) (nA := 0) (m := n1) (nR := n1) ((Oro.new W W.heap.size (Nat.le_refl _)).alloc (.cells #[.int .i64 z, v] 54)) (HL.below B0') (HO.below B0') rfl HF (by omega) B0'.size (by omega)
  rw [List.nil_append] at own1
  have B1 : Below W.heap.size W w1 := B0'.grown gr1 B0'.size (fun y e => by simp at e; omega)
  obtain ⟨g2, cap2, w2, r2, own2, gr2⟩ := app_T2 (c := 1) (nA := n1) (m := 1) (nR := k) own1 (L1.grown gr1 (by omega)) (fun e he => by simp at he; subst he; exact HE.below B1) HF rfl hk B1.size (by omega)
  have B2 : Below W.heap.size W w2 := B1.grown gr2 B1.size (fun y e => by simp at e; have := own1.lt; omega)
  exact ⟨g1, cap1, w1, g2, cap2, w2, r1, r2, B1, own2, (HO.below B2).append (fun e he => by simp at he; subst he; exact HE.below B2), B2⟩
theorem tw_C {W : World} {gF cF cap n1 k : Nat} {F : List Tr} {z : Int} {v : Value} {l : List Nat} (HL : Lie W gF 0 F) (HO : Ok W F) (HF : F.length = n1) (hk : n1 + 1 = k) (h16 : k ≤ 16) (HE : Vs W (z, v, l)) :
    ∃ g1 cap1 w1 g2 cap2 w2, (Builtin.append_ #[43, 43] 43 #[.slice (some ⟨W.heap.size + 1, 0, none⟩) 0 0, .slice (some ⟨gF, 0, none⟩) n1 cF]).run Tryd.prog ((W.alloc (.cells #[.int .i64 z, v] 54)).alloc (.cells #[] 54)) = .ok (.slice (some ⟨g1, 0, none⟩) n1 cap1) w1 ∧
      (Builtin.append_ #[43, 43] 43 #[.slice (some ⟨g1, 0, none⟩) n1 cap1, .slice (some ⟨W.heap.size, 0, none⟩) 1 1]).run Tryd.prog w1 = .ok (.slice (some ⟨g2, 0, none⟩) k cap2) w2 ∧ Below W.heap.size W w1 ∧ Ml W w2 g2 cap2 (F ++ [(z, v, l)]) := by
  have B0 : Below W.heap.size W (W.alloc (.cells #[.int .i64 z, v] 54)) := (Below.refl _ _).alloc (Nat.le_refl _) _
  have B0' : Below W.heap.size W ((W.alloc (.cells #[.int .i64 z, v] 54)).alloc (.cells #[] 54)) := B0.alloc B0.size _
  have z6 : (W.alloc (.cells #[.int .i64 z, v] 54)).heap.size = W.heap.size + 1 := by simp
  have L1 := (lie_one W z v l).alloc (.cells #[] 54)
  have o0 := Oro.new (W.alloc (.cells #[.int .i64 z, v] 54)) W.heap.size B0.size
  rw [z6] at o0
  obtain ⟨g1, cap1, w1, r1, own1, gr1⟩ := app_T2 (c := cF) (nA := 0) (m := n1) (nR := n1) o0 (HL.below B0') (HO.below B0') rfl HF (by omega) B0'.size (by omega)
  rw [List.nil_append] at own1
  have B1 : Below W.heap.size W w1 := B0'.grown gr1 B0'.size (fun y e => by simp at e; omega)
  obtain ⟨g2, cap2, w2, r2, own2, gr2⟩ := app_T2 (c := 1) (nA := n1) (m := 1) (nR := k) own1 (L1.grown gr1 (by omega)) (fun e he => by simp at he; subst he; exact HE.below B1) HF rfl hk B1.size (by omega)
  have B2 : Below W.heap.size W w2 := B1.grown gr2 B1.size (fun y e => by simp at e; have := own1.lt; omega)
  exact ⟨g1, cap1, w1, g2, cap2, w2, r1, r2, B1, own2, (HO.below B2).append (fun e he => by simp at he; subst he; exact HE.below B2), B2⟩
/- neither is good -/
theorem few_bad {M s k n1 : Nat} {T : List Tr} (hT : T.length = n1) (h : n1 + 1 = k) : ¬ (n1 = k ∧ GoodL M s (lst T)) := fun hh => by omega
theorem twice_bad {M s k : Nat} {F : List Tr} {e : Tr} (he : F[0]? = some e) (hk : (F ++ [e]).length = k) : ¬ (k = k ∧ GoodL M s (lst (F ++ [e]))) := by
  rintro ⟨_, h⟩
  have h0 : 0 < F.length := (List.getElem?_eq_some_iff.1 he).1
  have h9 := (h F.length (by simp [lst])).2.2 0 h0
  have e1 : (F ++ [e])[0]? = some e := by rw [List.getElem?_append_left h0]; exact he
  have e2 : (F ++ [e])[F.length]? = some e := by simp
  rw [(lst_get e1).1, (lst_get e2).1] at h9
  exact h9 rfl
theorem long_bad {M s k d : Nat} {T : List Tr} {e : Tr} (he : T[d]? = some e) (hl : e.2.2.length = s + 1) : ¬ (k = k ∧ GoodL M s (lst T)) := by
  rintro ⟨_, h⟩
  have h0 : d < T.length := (List.getElem?_eq_some_iff.1 he).1
  have h9 := (h d (by simp [lst]; exact h0)).2.1
  rw [(lst_get he).2, hl] at h9
  omega
end Go.Proofs.YtokkjdgfhpocdaaDoor
