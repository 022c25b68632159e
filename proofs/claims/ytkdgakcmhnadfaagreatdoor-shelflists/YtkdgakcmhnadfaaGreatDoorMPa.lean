import Derived.Test.YtkdgakcmhnadfaaGreatDoorMGs
import Derived.Test.YtkdgakcmhnadfaaGreatDoorMGu
/- Pa -/
/- What is put is got, and what is got is what was put: plain facts on lists. -/
namespace Go.Proofs.YtkdgakcmhnadfaaGreatDoor
set_option maxRecDepth 20000
set_option linter.unusedVariables false
set_option linter.unusedSimpArgs false
/- numbers there and back -/
theorem nat_canon {l : List Nat} {N S : Nat} (hb : ∀ x ∈ l, x < 256) (h : nat 9 l 0 0 = (N, S, true)) : l.take S = enc N ∧ S ≤ l.length := by
  have key : ∀ k, k ≤ 9 → k ≤ l.length → (∀ i, i < k → 128 ≤ l.getD i 0) → l.take S = enc N ∧ S ≤ l.length := by
    intro k
    obtain ⟨d, hd⟩ : ∃ d, 9 - k = d := ⟨_, rfl⟩
    induction d generalizing k with
    | zero =>
      intro h9 hl hm
      have := nat_stop h9 hl hm (by omega)
      rw [this] at h
      cases h
    | succ d ih =>
      intro h9 hl hm
      by_cases h1 : k < l.length
      · by_cases h2 : l.getD k 0 < 128
        · have h3 := nat_fin (by omega) h1 hm h2
          have h4 := enc_read hb h1 hm h2
          rw [h3] at h
          simp only [Prod.mk.injEq] at h
          rw [h.2.2] at h4
          rw [← h.1, ← h.2.1]
          exact ⟨(of_decide_eq_true h4).symm, by omega⟩
        · exact ih (k + 1) (by omega) (by omega) (by omega) (fun i hi => by
            by_cases e : i = k
            · rw [e]; omega
            · exact hm i (by omega))
      · have := nat_stop h9 hl hm (by omega)
        rw [this] at h
        cases h
  exact key 0 (by omega) (by omega) (fun i hi => by omega)
theorem drop_bytes {l : List Nat} (hb : ∀ x ∈ l, x < 256) (p : Nat) : ∀ x ∈ l.drop p, x < 256 := fun x hx => hb x (List.mem_of_mem_drop hx)
theorem rdN_there (A : List Nat) {N : Nat} (t : List Nat) {z : Int} (hN : N < 9223372036854775808) (hz : (N : Int) ≤ z) : rdN (A ++ (enc N ++ t)) A.length z = (N, 0, A.length + (enc N).length) := by
  refine rdN_ok (S := (enc N).length) ?_ hz
  rw [List.drop_left]
  exact nat_enc hN t
theorem rdN_back {l : List Nat} {p : Nat} {z : Int} (hb : ∀ x ∈ l, x < 256) (h : (rdN l p z).2.1 = 0) : (l.drop p).take ((rdN l p z).2.2 - p) = enc (rdN l p z).1 ∧ p ≤ (rdN l p z).2.2 ∧ (p ≤ l.length → (rdN l p z).2.2 ≤ l.length) := by
  obtain ⟨N, S, ok, hN⟩ : ∃ N S ok, nat 9 (l.drop p) 0 0 = (N, S, ok) := ⟨_, _, _, rfl⟩
  by_cases h1 : ok = true ∧ (N : Int) ≤ z
  · obtain ⟨rfl, hz⟩ := h1
    rw [rdN_ok hN hz]
    have h2 := nat_canon (drop_bytes hb p) hN
    refine ⟨?_, by simp, fun hp => ?_⟩
    · rw [show p + S - p = S by omega]; exact h2.1
    · have := h2.2
      simp at this
      dsimp only
      omega
  · rw [rdN_bad hN (fun h2 => by have : ¬ (N : Int) ≤ z := fun h3 => h1 ⟨h2, h3⟩; omega)] at h
    cases h
theorem encs_cut (ns : List Nat) (k : Nat) (hk : k < ns.length) : encs ns = encs (ns.take k) ++ (enc (ns.getD k 0) ++ encs (ns.drop (k + 1))) := by
  have e : ns = ns.take k ++ (ns.getD k 0 :: ns.drop (k + 1)) := by
    rw [← drop_at hk, List.take_append_drop]
  conv => lhs; rw [e]
  rw [encs_append]
  rfl
theorem rdS_there {ns : List Nat} {zs : List Int} (hb : ∀ x ∈ ns, x < 9223372036854775808) (hz : ∀ i, i < ns.length → ((ns.getD i 0 : Nat) : Int) ≤ zs.getD i 0) : ∀ k, k ≤ ns.length → rdS (encs ns) zs k = some (ns.take k, (encs (ns.take k)).length)
  | 0, _ => rfl
  | k + 1, hk => by
    have ih := rdS_there hb hz k (by omega)
    have e := encs_cut ns k (by omega)
    have h1 : rdN (encs ns) (encs (ns.take k)).length (zs.getD k 0) = (ns.getD k 0, 0, (encs (ns.take k)).length + (enc (ns.getD k 0)).length) := by
      rw [e]
      exact rdN_there _ _ (hb _ (by simp [List.getD, show k < ns.length by omega])) (hz k (by omega))
    rw [rdS_ok ih (by rw [h1]), h1, encs_take (by omega), List.length_append, take_succ_getD (by omega)]
theorem rdS_back {l : List Nat} {zs : List Int} (hb : ∀ x ∈ l, x < 256) : ∀ {k p : Nat} {ns : List Nat}, rdS l zs k = some (ns, p) → encs ns = l.take p ∧ p ≤ l.length
  | 0, p, ns, h => by
    simp only [rdS, Option.some.injEq, Prod.mk.injEq] at h
    rw [← h.1, ← h.2]
    simp [encs]
  | k + 1, p, ns, h => by
    simp only [rdS] at h
    cases hk : rdS l zs k with
    | none => rw [hk] at h; cases h
    | some r =>
      obtain ⟨ns', p'⟩ := r
      rw [hk] at h
      dsimp only at h
      split at h
      · rename_i h0
        simp only [Option.some.injEq, Prod.mk.injEq] at h
        have ih := rdS_back hb hk
        have h3 := rdN_back hb h0
        rw [← h.1, ← h.2, encs_append, ih.1]
        refine ⟨?_, h3.2.2 ih.2⟩
        show _ ++ (enc _ ++ []) = _
        rw [List.append_nil, ← h3.1]
        obtain ⟨q, hq⟩ : ∃ q, (rdN l p' (zs.getD k 0)).2.2 = p' + q := ⟨_, (by have := h3.2.1; omega : _ = p' + ((rdN l p' (zs.getD k 0)).2.2 - p'))⟩
        rw [hq, show p' + q - p' = q by omega, List.take_add]
      · cases h
theorem most_ok {a b c d e n : Nat} (h : okN [1, (a : Int), b, c, d, e, 0] = true) (hn : n ≤ 1024) : (∀ x ∈ [1, a, b, c, d, e, n], x < 9223372036854775808) ∧ (∀ i, i < 7 → ((([1, a, b, c, d, e, n] : List Nat).getD i 0 : Nat) : Int) ≤ mostL.getD i 0) := by
  rw [okN_iff] at h
  refine ⟨?_, ?_⟩
  · intro x hx
    simp only [List.mem_cons, List.not_mem_nil, or_false] at hx
    omega
  · intro i hi
    have : i = 0 ∨ i = 1 ∨ i = 2 ∨ i = 3 ∨ i = 4 ∨ i = 5 ∨ i = 6 := by omega
    rcases this with rfl | rfl | rfl | rfl | rfl | rfl | rfl <;> simp [mostL] <;> omega
theorem hdN_there {a b c d e n : Nat} (h : okN [1, (a : Int), b, c, d, e, 0] = true) (hn : n ≤ 1024) : hdN (encs [1, a, b, c, d, e, n]) = some [1, a, b, c, d, e, n] := by
  have h1 := most_ok h hn
  exact hdN_ok (rdS_there h1.1 h1.2 7 (by simp)) rfl rfl
theorem opn_seal (l : List Nat) : opn (sealL l) = (l, 0) := by
  rw [opn_ok (by rw [seal_len]; omega) (by rw [seal_take]), seal_take]
theorem encs_seven {ns : List Nat} (hb : ∀ x ∈ ns, x < 9223372036854775808) (hl : ns.length = 7) : (sealL (encs ns)).length ≤ 67 := by
  have := encs_len hb
  rw [seal_len]
  omega
theorem rdB_head {ns : List Nat} (hb : ∀ x ∈ ns, x < 9223372036854775808) (hl : ns.length = 7) (X : List Nat) : rdB (headL ns ++ X) 0 256 = (sealL (encs ns), 0, (headL ns).length) := by
  have h1 := encs_seven hb hl
  have h2 : nat 9 ((headL ns ++ X).drop 0) 0 0 = ((sealL (encs ns)).length, (enc (sealL (encs ns)).length).length, true) := by
    rw [List.drop_zero, headL, List.append_assoc]
    exact nat_enc (by omega) _
  rw [rdB_ok h2 (by omega) (by simp [headL])]
  refine Prod.ext ?_ (Prod.ext rfl ?_)
  · show ((headL ns ++ X).drop (0 + _)).take _ = _
    rw [Nat.zero_add, headL, List.append_assoc, List.drop_left, List.take_left]
  · simp [headL]
theorem hdF_there {a b c d e n : Nat} (h : okN [1, (a : Int), b, c, d, e, 0] = true) (hn : n ≤ 1024) (X : List Nat) : hdF (headL [1, a, b, c, d, e, n] ++ X) = (0, [1, a, b, c, d, e, n], (headL [1, a, b, c, d, e, n]).length) := by
  have h1 := most_ok h hn
  have h2 := rdB_head h1.1 rfl X
  have h3 : (rdB (headL [1, a, b, c, d, e, n] ++ X) 0 256).2.2 = (headL [1, a, b, c, d, e, n]).length := by rw [h2]
  rw [hdF_some (ns := [1, a, b, c, d, e, n]) (by rw [h2]) (by rw [h2, opn_seal]) (by rw [h2, opn_seal]; exact hdN_there h hn), h3]
theorem hdF_back {F ns : List Nat} {p : Nat} (hb : ∀ x ∈ F, x < 256) (h : hdF F = (0, ns, p)) : headL ns = F.take p := by
  obtain ⟨h1, h2, h3, h4⟩ := hdF_ok h
  obtain ⟨N, S, ok, hN⟩ : ∃ N S ok, nat 9 (F.drop 0) 0 0 = (N, S, ok) := ⟨_, _, _, rfl⟩
  by_cases hc : ok = true ∧ (N : Int) ≤ 256 ∧ 0 + S + N ≤ F.length
  · obtain ⟨rfl, hz, hf⟩ := hc
    have e := rdB_ok hN hz hf
    rw [List.drop_zero] at hN
    have cn := nat_canon hb hN
    rw [e] at h2 h3 h4
    dsimp only at h2 h3 h4
    rw [Nat.zero_add] at h2 h3 h4 hf
    obtain ⟨L, hL⟩ : ∃ L, (F.drop S).take N = L := ⟨_, rfl⟩
    rw [hL] at h2 h3
    have lN : L.length = N := by rw [← hL]; simp; omega
    have lb : ∀ x ∈ L, x < 256 := by rw [← hL]; exact fun x hx => hb x (List.mem_of_mem_drop (List.mem_of_mem_take hx))
    have sl : sealL (opn L).1 = L := by
      by_cases k1 : L.length < 4
      · rw [opn_few k1] at h2; cases h2
      · by_cases k2 : sealL (L.take (L.length - 4)) = L
        · rw [opn_ok (by omega) k2]; exact k2
        · rw [opn_bad (by omega) k2] at h2; cases h2
    have ob : ∀ x ∈ (opn L).1, x < 256 := by
      intro x hx
      refine lb x ?_
      rw [← sl]
      unfold sealL
      exact List.mem_append_left _ hx
    have en : encs ns = (opn L).1 := by
      unfold hdN at h3
      cases hk : rdS (opn L).1 mostL 7 with
      | none => rw [hk] at h3; cases h3
      | some r =>
        obtain ⟨ns', p'⟩ := r
        rw [hk] at h3
        dsimp only at h3
        split at h3
        · rename_i h5
          simp only [Option.some.injEq] at h3
          rw [← h3, (rdS_back ob hk).1, h5.2, List.take_length]
        · cases h3
    rw [headL, en, sl, lN, ← cn.1, ← h4, List.take_add, hL]
  · rw [rdB_bad hN (fun k1 k2 => by have : ¬ 0 + S + N ≤ F.length := fun k3 => hc ⟨k1, k2, k3⟩; omega)] at h1
    cases h1
end Go.Proofs.YtkdgakcmhnadfaaGreatDoor

/- Pb -/
/- Bodies there and back: plain facts on lists. -/
namespace Go.Proofs.YtkdgakcmhnadfaaGreatDoor
set_option maxRecDepth 20000
set_option linter.unusedVariables false
set_option linter.unusedSimpArgs false
/- the bodies of m blocks from block i on -/
def bodyR (l : List Nat) : Nat → Nat → List Nat
  | _, 0 => []
  | i, m + 1 => pc l i ++ Gs.sum (pc l i) ++ bodyR l (i + 1) m
theorem bodyK_cut (l : List Nat) : ∀ m i, bodyK l (i + m) = bodyK l i ++ bodyR l i m
  | 0, i => by simp [bodyR]
  | m + 1, i => by
    have h := bodyK_cut l m (i + 1)
    rw [show i + (m + 1) = i + 1 + m by omega, h, bodyK, bodyR]
    simp only [List.append_assoc]
theorem bodyL_drop {l : List Nat} {i : Nat} (h : i < blks l.length) : (bodyL l).drop (64 * i) = pc l i ++ Gs.sum (pc l i) ++ bodyR l (i + 1) (blks l.length - i - 1) := by
  have e := bodyK_cut l (blks l.length - i) i
  rw [show i + (blks l.length - i) = blks l.length by omega] at e
  have hl := bodyK_len l i (by unfold blks at h; omega)
  have h2 : (bodyK l i).length = 64 * i := by rw [hl]; unfold blks at h; omega
  unfold bodyL
  rw [e, ← h2, List.drop_left, show blks l.length - i = (blks l.length - i - 1) + 1 by omega, bodyR]
  rfl
theorem pb_there {l : List Nat} {i : Nat} (h : i < blks l.length) : pb (bodyL l) i = pc l i ++ Gs.sum (pc l i) := by
  unfold pb
  rw [bodyL_drop h]
  have h1 := pc_len l i
  have h2 := sum_len (pc l i)
  by_cases h3 : i + 1 = blks l.length
  · rw [show blks l.length - i - 1 = 0 by omega, bodyR, List.append_nil, List.take_of_length_le (by rw [List.length_append]; omega)]
  · have h4 : (pc l i ++ Gs.sum (pc l i)).length = 64 := by rw [List.length_append, h1, h2]; unfold blks at h h3; omega
    rw [← h4, List.take_left]
theorem pbk_there {l : List Nat} {i : Nat} (h : i < blks l.length) : pbk (bodyL l) i = pc l i := by
  unfold pbk
  rw [pb_there h, List.length_append, sum_len, Nat.add_sub_cancel, List.take_left]
theorem pbd_there {l : List Nat} {i : Nat} (h : i < blks l.length) : pbd (bodyL l) i = Gs.sum (pc l i) := by
  unfold pbd
  rw [pb_there h, List.length_append, sum_len, Nat.add_sub_cancel, List.drop_left]
theorem gdB_there {l : List Nat} {i : Nat} (h : i < blks l.length) : gdB (bodyL l) i = true := by
  unfold gdB
  rw [pbk_there h, pbd_there h]
  simp
theorem shK_there {l : List Nat} : ∀ k, k ≤ blks l.length → shK (bodyL l) k = l.take (32 * k)
  | 0, _ => by simp [shK]
  | k + 1, h => by
    rw [shK, shK_there k (by omega), pbk_there (by omega), pc, show 32 * (k + 1) = 32 * k + 32 by omega, List.take_add]
theorem shK_all (l : List Nat) : shK (bodyL l) (blks l.length) = l := by
  rw [shK_there _ (Nat.le_refl _), List.take_of_length_le (by unfold blks; omega)]
/- and back -/
theorem shK_lenK {G : List Nat} {z : Nat} (hl : G.length = z + 32 * blks z) : ∀ k, k ≤ blks z → (shK G k).length = min (32 * k) z
  | 0, _ => by simp [shK]
  | k + 1, h => by
    rw [shK, List.length_append, shK_lenK hl k (by omega)]
    have h1 := pb_len G (z + 32 * blks z) k hl.symm
    have h2 := ckn_full (z := z) (i := k) (by omega)
    have h3 : (pbk G k).length = min 32 (z - 32 * k) := by
      unfold pbk
      rw [List.length_take, h1, h2.1]
      omega
    rw [h3]
    omega
def shR (G : List Nat) : Nat → Nat → List Nat
  | _, 0 => []
  | i, m + 1 => pbk G i ++ shR G (i + 1) m
theorem shK_cut (G : List Nat) : ∀ m i, shK G (i + m) = shK G i ++ shR G i m
  | 0, i => by simp [shR]
  | m + 1, i => by
    have h := shK_cut G m (i + 1)
    rw [show i + (m + 1) = i + 1 + m by omega, h, shK, shR]
    simp only [List.append_assoc]
theorem pc_back {G : List Nat} {z i : Nat} (hl : G.length = z + 32 * blks z) (h : i < blks z) : pc (shK G (blks z)) i = pbk G i := by
  have e := shK_cut G (blks z - i) i
  rw [show i + (blks z - i) = blks z by omega] at e
  have h2 := shK_lenK hl i (by omega)
  have h3 : (shK G i).length = 32 * i := by rw [h2]; unfold blks at h; omega
  have h1 := pb_len G (z + 32 * blks z) i hl.symm
  have h4 := ckn_full (z := z) (i := i) h
  have h5 : (pbk G i).length = min 32 (z - 32 * i) := by
    unfold pbk
    rw [List.length_take, h1, h4.1]
    omega
  unfold pc
  rw [e, ← h3, List.drop_left, show blks z - i = (blks z - i - 1) + 1 by omega, shR]
  by_cases h6 : i + 1 = blks z
  · rw [show blks z - i - 1 = 0 by omega, shR, List.append_nil, List.take_of_length_le (by omega)]
  · have h7 : (pbk G i).length = 32 := by rw [h5]; unfold blks at h h6; omega
    rw [← h7, List.take_left]
theorem body_back {G : List Nat} {z : Nat} (hl : G.length = z + 32 * blks z) (hg : ∀ i, i < blks z → gdB G i = true) : ∀ k, k ≤ blks z → bodyK (shK G (blks z)) k = G.take (64 * k)
  | 0, _ => by simp [bodyK]
  | k + 1, h => by
    rw [bodyK, body_back hl hg k (by omega), pc_back hl (by omega)]
    have h1 := hg k (by omega)
    unfold gdB at h1
    rw [of_decide_eq_true h1, show 64 * (k + 1) = 64 * k + 64 by omega, List.take_add]
    congr 1
    show pbk G k ++ pbd G k = pb G k
    unfold pbk pbd
    rw [List.take_append_drop]
theorem bodyL_back {G : List Nat} {z : Nat} (hl : G.length = z + 32 * blks z) (hg : ∀ i, i < blks z → gdB G i = true) : bodyL (shK G (blks z)) = G ∧ (shK G (blks z)).length = z := by
  have h1 : (shK G (blks z)).length = z := by rw [shK_lenK hl _ (Nat.le_refl _)]; unfold blks; omega
  refine ⟨?_, h1⟩
  unfold bodyL
  rw [h1, body_back hl hg _ (Nat.le_refl _), List.take_of_length_le (by rw [hl]; unfold blks; omega)]
end Go.Proofs.YtkdgakcmhnadfaaGreatDoor
