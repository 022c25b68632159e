/- slices.Values' closure as an iterator's contract. -/
import Derived.Test.YtdoenacobmebpaaDoorDj
namespace Go.Proofs.YtdoenacobmebpaaDoor
open Go.ChangeShapes Go.WideShapes Go.ChangeAt Go.RowKit Go.Shelf
set_option maxRecDepth 20000
set_option linter.unusedVariables false
set_option linter.unusedSimpArgs false
attribute [local go_sem] Oper.semAt_some
abbrev e0 : ByteArray := ⟨#[]⟩
theorem range_snoc (q : Nat) : List.range (q + 1) = List.range q ++ [q] := List.range_succ
theorem Kn.keepC {w w' : World} {B : Nat} {a : Option Addr} {k : Nat} {ks : List ByteArray} {C : Nat → Prop} {mm Z : Nat} (h : Kn w B a k ks) (hk : KeepC C mm Z w w') (hZ : ∀ g, a = some ⟨g, 0, none⟩ → g < Z ∧ ¬ C g) : Kn w' B a k ks := by
  refine ⟨h.len, h.row.imp id ?_⟩
  rintro ⟨g, cs, h1, h2, h3, h4⟩
  exact ⟨g, cs, h1, h2, hk.same g _ h3 (hZ g h1).1 (hZ g h1).2 (.inl rfl), h4⟩
set_option maxHeartbeats 2000000 in
theorem values_seqC (N : Nat) (hN : 1 ≤ N) (K k c B : Nat) (a : Option Addr) (ks : List ByteArray) (C : Nat → Prop) (w : World) (hk : w.cell? ⟨K, 0, none⟩ = some (.slice a k c)) (kn : Kn w B a k ks) (hkb : k ≤ 512) (hC : ∀ g, 0 < k → a = some ⟨g, 0, none⟩ → ¬ C g) :
    SeqC Fence.wide N Tryd.prog 51 #[.pointer (some ⟨K, 0, none⟩)] (fun i : Nat => #[.string (ks.getD i e0)]) (fun _ pre x _ => x = pre.length ∧ x < k) C (fun xs => xs = List.range k) (fun _ => True) w := fun l J Jx W hW hJ hJx hY h0 => by
  have c1 : W.cell? ⟨K, 0, none⟩ = some (.slice a k c) := (hW.cell (p := ⟨K, 0, none⟩) (cell_lt hk)).trans hk
  have k1 : Kn W B a k ks := kn.keep (fun g h1 h2 => hW.block g h2)
  have J0 := h0 W.heap.size (Nat.le_refl _)
  have gW : Hid (∀ g, 0 < k → a = some ⟨g, 0, none⟩ → g < W.heap.size ∧ ¬ C g) := fun g h1 h2 => by
    obtain ⟨g', e1, _, e2, _⟩ := k1.at_ h1
    rw [h2] at e1
    cases e1
    exact ⟨e2, hC g h1 h2⟩
  have kl : Hid (k = ks.length) := kn.len
  refine callsIn_of_wp Tryd.func51 rfl trivial ?_ rfl
  simp only [Tryd.ntmps51, List.size_toArray, List.length_cons, List.length_nil, Nat.reduceAdd, Nat.reduceSub, Array.replicate_succ, Array.replicate_zero, List.push_toArray, List.append_toArray, List.nil_append, List.cons_append]
  have R0 : Hid (J W.heap.size [] W ∧ Kn W B a k ks ∧ W.heap.size ≤ W.heap.size) := ⟨J0, k1, Nat.le_refl _⟩
  clear k1 J0 h0 kn
  gi_wp2
  clear c1 hk
  gi_loopw [7] (fun i wr => ∃ q : Nat, i = .int .i64 (q : Int) ∧ q ≤ k ∧ Hid (J W.heap.size (List.range q) wr ∧ Kn wr B a k ks ∧ W.heap.size ≤ wr.heap.size)) (fun i _ => k - (intOf i).toNat)
  case atStart => exact ⟨0, rfl, by omega, R0.out⟩
  case round =>
    obtain ⟨q, rfl, hq, HQ⟩ := hrel
    clear R0
    by_cases hlt : q < k
    · obtain ⟨g, rfl, hg1, hg2, hc⟩ := HQ.out.2.1.at_ hlt
      have e1 : ks[q]'(by have := kl.out; omega) = ks.getD q e0 := by
        have : q < ks.length := by have := kl.out; omega
        simp [List.getD, this]
      rw [e1] at hc
      obtain ⟨fn, tmps, assign, body, hy, hR⟩ := hY W.heap.size (List.range q) q wr (Nat.le_refl _) HQ.out.2.2 HQ.out.1 ⟨by simp, hlt⟩
      have i1 : (q : Int) < (k : Int) := by omega
      have hR2 := hR.mono (R' := fun e W3 => ∃ bb : Bool, e = .returned (.bool bb) ∧ Hid (KeepC C W.heap.size W.heap.size wr W3 ∧ ((bb = true ∧ J W.heap.size (List.range q ++ [q]) W3) ∨ (bb = false ∧ Jx W.heap.size (List.range q ++ [q]) W3)))) (fun e W3 h => by
        rcases h with ⟨h1, h2, h3⟩ | ⟨h1, h2, h3⟩
        · exact ⟨true, h1, h3, .inl ⟨rfl, h2⟩⟩
        · exact ⟨false, h1, h3, .inr ⟨rfl, h2⟩⟩)
      have HK : Hid (Kn wr B (some ⟨g, 0, none⟩) k ks ∧ W.heap.size ≤ wr.heap.size) := HQ.out.2
      obtain ⟨s, Hs⟩ : ∃ s, Hid (ks.getD q e0 = s) := ⟨_, rfl⟩
      simp only [Hs.out] at hc hy
      clear hR HQ e1 hY
      gi_wp2
      refine hR2.mono ?_
      rintro e2 W3 ⟨bb, rfl, H3⟩
      cases bb with
      | true =>
        have NX : Hid (J W.heap.size (List.range (q + 1)) W3 ∧ Kn W3 B (some ⟨g, 0, none⟩) k ks ∧ W.heap.size ≤ W3.heap.size) := by
          refine ⟨?_, HK.out.1.keepC H3.out.1 (fun g' h' => gW.out g' (by omega) h'), Nat.le_trans HK.out.2 H3.out.1.size⟩
          rw [range_snoc]
          rcases H3.out.2 with h | h
          · exact h.2
          · cases h.1
        clear H3 HK hR2 hy
        gi_wp2
        go_roundw
        case rel => exact ⟨q + 1, by go_num, by omega, NX.out⟩
        case measure => simp [intOf]; omega
      | false =>
        have FX : Hid (Jx W.heap.size (List.range q ++ [q]) W3) := by
          rcases H3.out.2 with h | h
          · cases h.1
          · exact h.2
        clear H3 HK hR2 hy
        gi_wp2
        refine bodyPost_ret (results_none rfl _ _ _) rfl ?_
        exact ⟨⟨_, rfl⟩, _, Nat.le_refl _, .inr ⟨_, trivial, FX.out⟩⟩
    · obtain rfl : q = k := by omega
      have FJ : Hid (J W.heap.size (List.range q) wr) := HQ.out.1
      clear HQ hY
      gi_wp2
      go_end0
      exact ⟨⟨_, rfl⟩, _, Nat.le_refl _, .inl ⟨_, rfl, FJ.out⟩⟩
end Go.Proofs.YtdoenacobmebpaaDoor
