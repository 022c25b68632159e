/- One pass over the names of a drive: they rise, and f is found. -/
import Derived.Test.YtdoenacobmebpaaDoorDk
import Derived.Sort.Walk0
import Derived.Laws.Cover1
namespace Go.Proofs.YtdoenacobmebpaaDoor
open Go.ChangeShapes Go.WideShapes Go.ChangeAt Go.RowKit Go.Shelf
set_option maxRecDepth 20000
set_option linter.unusedVariables false
set_option linter.unusedSimpArgs false
attribute [local go_sem] Oper.semAt_some
def blkIn (n : Nat) : Code → Option Code
  | .block i c => if i = n then some (.block i c) else blkIn n c
  | .seq a b => match blkIn n a with
    | some c => some c
    | none => blkIn n b
  | .cond _ a b => match blkIn n a with
    | some c => some c
    | none => blkIn n b
  | .loop c => blkIn n c
  | .scope c => blkIn n c
  | _ => none
def inn : Code → Code
  | .block _ c => c
  | c => c
/- the name ahead of number q, and whether f is among the first q -/
def lastOf (ks : List ByteArray) (q : Nat) : ByteArray := if q = 0 then e0 else ks.getD (q - 1) e0
def fnd (ks : List ByteArray) : Nat → Bool
  | 0 => false
  | q + 1 => fnd ks q || decide (ks.getD q e0 = nF)
theorem fnd_mem {ks : List ByteArray} {i : Nat} (h : ks.getD i e0 = nF) : ∀ q, i < q → fnd ks q = true
  | 0, hq => by omega
  | q + 1, hq => by
    by_cases e : i = q
    · subst e
      show (fnd ks i || decide (ks.getD i e0 = nF)) = true
      rw [h]
      simp
    · show (fnd ks q || decide (ks.getD q e0 = nF)) = true
      rw [fnd_mem h q (by omega)]
      rfl
/- what the names of a drive keep to -/
structure Nms (ks : List ByteArray) : Prop where
  up : ∀ q, q < ks.length → (Op.bytesLess (ks.getD q e0).toList (lastOf ks q).toList || (ks.getD q e0).toList == (lastOf ks q).toList) = false
  has : fnd ks ks.length = true
theorem nms_of {w : World} {d m : Nat} {D : DataW Unit} {full : Bool} {lost : Int} (hD : Drv w d m D full lost) (hf : vw D nF = some F12) {ks : List ByteArray} {ss : List (List UInt8)} (hS : ss.Perm (strKeys D)) (hk : ks = (ss.mergeSort (fun x y => decide (x ≤ y))).map fun x => ⟨x.toArray⟩) : Nms ks := by
  have nd : (strKeys D).Nodup := by
    obtain ⟨es, e, hkk⟩ := hD.own.keysOf
    obtain ⟨es2, e2, hp⟩ := hD.tidy
    rw [e] at e2
    cases e2
    rw [e]
    refine List.pairwise_map.2 (hp.imp_of_mem fun {p q} hp' hq' hne e => hne ?_)
    obtain ⟨v, hv⟩ := hkk p hp'
    obtain ⟨v', hv'⟩ := hkk q hq'
    obtain ⟨x, _, hx, _⟩ := Maps.keyOf_str Tryd.underlying9 hv
    obtain ⟨x', _, hx', _⟩ := Maps.keyOf_str Tryd.underlying9 hv'
    rw [hx, hx'] at e ⊢
    exact congrArg _ e
  obtain ⟨T, hT⟩ : ∃ T, T = ss.mergeSort (fun x y => decide (x ≤ y)) := ⟨_, rfl⟩
  rw [← hT] at hk
  have tp : T.Perm (strKeys D) := by rw [hT]; exact (List.mergeSort_perm _ _).trans hS
  have tnd : T.Nodup := tp.nodup_iff.2 nd
  have tle : T.Pairwise (fun x y => decide (x ≤ y) = true) := by
    rw [hT]
    exact List.pairwise_mergeSort (fun a b c h1 h2 => by simp only [decide_eq_true_eq] at *; exact List.le_trans h1 h2) (fun a b => by simp only [Bool.or_eq_true, decide_eq_true_eq]; exact List.le_total a b) ss
  have tlt : T.Pairwise (fun x y => x < y) := (tle.and tnd).imp (fun {a b} h => (List.le_iff_lt_or_eq.1 (of_decide_eq_true h.1)).resolve_right h.2)
  have lenk : ks.length = T.length := by rw [hk]; simp
  have getk : ∀ q, (h : q < T.length) → (ks.getD q e0).toList = T[q] := fun q h => by
    rw [hk, ByteArray.toList_eq]
    simp [List.getD, h]
  have ne0 : ∀ x ∈ T, x ≠ [] := by
    intro x hx e
    have h1 : x ∈ strKeys D := tp.mem_iff.1 hx
    obtain ⟨es, e3, hkk⟩ := hD.own.keysOf
    have h2 : (vw D ⟨x.toArray⟩).isSome = true := by
      rw [vw_some]
      subst e3
      obtain ⟨p, hp, hpx⟩ := List.mem_map.1 h1
      obtain ⟨v, hv⟩ := hkk p hp
      obtain ⟨y, _, hy, _⟩ := Maps.keyOf_str Tryd.underlying9 hv
      rw [Maps.has_eq, List.any_eq_true]
      refine ⟨p, hp, ?_⟩
      rw [hy] at hpx ⊢
      simp [strOf] at hpx
      simp [kl, Lit.sameKey, hpx]
    have h3 := hD.good _ h2
    rw [e] at h3
    revert h3
    decide
  refine ⟨fun q hq => ?_, ?_⟩
  · have hq' : q < T.length := by omega
    rw [getk q hq']
    by_cases h0 : q = 0
    · subst h0
      have h1 := ne0 T[0] (List.getElem_mem _)
      have e4 : (lastOf ks 0).toList = [] := by simp [lastOf, e0, ByteArray.toList_eq]
      rw [e4, bytesLess_eq]
      simp [h1]
    · have e4 : (lastOf ks q).toList = T[q - 1] := by unfold lastOf; rw [if_neg h0]; exact getk _ (by omega)
      rw [e4, bytesLess_eq]
      have h1 : T[q - 1] < T[q] := List.pairwise_iff_getElem.1 tlt (q - 1) q (by omega) hq' (by omega)
      have h2 : ¬ T[q] < T[q - 1] := List.lt_asymm h1
      have h3 : T[q] ≠ T[q - 1] := fun e => by rw [e] at h1; exact List.lt_irrefl _ h1
      simp [h2, h3]
  · have h1 : nF.data.toList ∈ T := tp.mem_iff.2 (mem_keys (D := D) (t := nF) (by rw [hf]; rfl))
    obtain ⟨i, hi, e5⟩ := List.mem_iff_getElem.1 h1
    refine fnd_mem (i := i) ?_ _ (by omega)
    rw [hk]
    simp [List.getD, hi, e5]
set_option maxHeartbeats 4000000 in
theorem pass6 {P0 W : World} {K k c : Nat} {a : Option Addr} {ks : List ByteArray} (hk : Hid (W.cell? ⟨K, 0, none⟩ = some (.slice a k c))) (kn : Hid (Kn W (P0.heap.size + 2) a k ks)) (hkb : Hid (k ≤ 512)) (hN0 : Hid (Nms ks))
    (hb : Hid (Below P0.heap.size P0 W ∧ Boxed W P0.heap.size 9 (.string e0) ∧ Boxed W (P0.heap.size + 1) 4 (.bool false))) {c0 c1 c2 c3 c4 c5 c6 c7 c10 c11 c12 c13 c14 c15 c16 c17 c18 c19 c20 c21 c22 c23 c24 c25 c26 c27 c28 c29 c30 c31 c32 c33 c34 c35 c36 c37 c38 c39 c40 c41 c42 c43 c44 c45 c46 c47 c48 c49 c50 c51 c52 c53 c54 c55 c56 c57 c58 c59 c60 c61 c62 c63 c64 c65 c66 c67 c68 c69 c70 c71 c72 c73 c74 c75 c76 c77 c78 c79 c80 c81 c82 c83 c84 c85 c86 c87 c88 c89 c90 c91 c92 c93 c94 c95 c96 c98 c99 c100 c101 c102 c103 c104 c105 c106 c107 c108 c109 c110 : Value} {ds : List Deferred} {Q : Exit → Act → World → Prop}
    (hN : ∀ (D : Nat) (U : World), Hid (P0.heap.size < D ∧ Below P0.heap.size P0 U ∧ Boxed U (P0.heap.size + 1) 4 (.bool true) ∧ U.heap[D]? = some (.deferred (some []))) → Q .normal ⟨#[c0, c1, c2, c3, c4, c5, c6, c7, .pointer (some ⟨P0.heap.size, 0, none⟩), .pointer (some ⟨P0.heap.size + 1, 0, none⟩), c10, c11, c12, c13, c14, c15, c16, c17, c18, c19, c20, c21, c22, c23, c24, c25, c26, c27, c28, c29, c30, c31, c32, c33, c34, c35, c36, c37, c38, c39, c40, c41, c42, c43, c44, c45, c46, c47, c48, c49, c50, c51, c52, c53, c54, c55, c56, c57, c58, c59, c60, c61, c62, c63, c64, c65, c66, c67, c68, c69, c70, c71, c72, c73, c74, c75, c76, c77, c78, c79, c80, c81, c82, c83, c84, c85, c86, c87, c88, c89, c90, c91, c92, c93, c94, c95, c96, .func (.func 51) #[] #[.pointer (some ⟨K, 0, none⟩)], c98, c99, c100, c101, c102, c103, c104, c105, c106, c107, c108, c109, c110], { target := .collected D, args := #[] } :: ds⟩ U) :
    (inn ((Tryd.f6.body.bind (blkIn 3)).getD .skip)).wpIn Fence.wide 20 Tryd.prog Q ⟨#[c0, c1, c2, c3, c4, c5, c6, c7, .pointer (some ⟨P0.heap.size, 0, none⟩), .pointer (some ⟨P0.heap.size + 1, 0, none⟩), c10, c11, c12, c13, c14, c15, c16, c17, c18, c19, c20, c21, c22, c23, c24, c25, c26, c27, c28, c29, c30, c31, c32, c33, c34, c35, c36, c37, c38, c39, c40, c41, c42, c43, c44, c45, c46, c47, c48, c49, c50, c51, c52, c53, c54, c55, c56, c57, c58, c59, c60, c61, c62, c63, c64, c65, c66, c67, c68, c69, c70, c71, c72, c73, c74, c75, c76, c77, c78, c79, c80, c81, c82, c83, c84, c85, c86, c87, c88, c89, c90, c91, c92, c93, c94, c95, c96, .func (.func 51) #[] #[.pointer (some ⟨K, 0, none⟩)], c98, c99, c100, c101, c102, c103, c104, c105, c106, c107, c108, c109, c110], ds⟩ W := by
  conv => arg 4; whnf
  have sW : Hid (P0.heap.size + 1 < W.heap.size) := hb.out.2.2.lt
  have kl : Hid (k = ks.length) := kn.out.len
  refine rangeC (C := (fun b => b = P0.heap.size ∨ b = P0.heap.size + 1)) rfl (by omega) (gf := 51) (lb := #[.pointer (some ⟨K, 0, none⟩)]) rfl trivial (enters_of Tryd.func51 (by kernel_rfl) rfl)
    (values_seqC 19 (by omega) K k c (P0.heap.size + 2) a ks _ W hk.out kn.out hkb.out ?c1) (Below.refl _ _) (fun _ => rfl) ?hC ?hGd
    (fun Z pre U => Below P0.heap.size P0 U ∧ Boxed U P0.heap.size 9 (.string (lastOf ks pre.length)) ∧ Boxed U (P0.heap.size + 1) 4 (.bool (fnd ks pre.length)))
    (fun Z c pre U => False) ?hI ?hIx (fun Z _ => ⟨hb.out.1, hb.out.2.1, hb.out.2.2⟩)
    (fun x : Nat => { tmps := #[c0, c1, c2, c3, c4, c5, c6, c7, .pointer (some ⟨P0.heap.size, 0, none⟩), .pointer (some ⟨P0.heap.size + 1, 0, none⟩), .string (ks.getD x e0), c11, c12, c13, c14, c15, c16, c17, c18, c19, c20, c21, c22, c23, c24, c25, c26, c27, c28, c29, c30, c31, c32, c33, c34, c35, c36, c37, c38, c39, c40, c41, c42, c43, c44, c45, c46, c47, c48, c49, c50, c51, c52, c53, c54, c55, c56, c57, c58, c59, c60, c61, c62, c63, c64, c65, c66, c67, c68, c69, c70, c71, c72, c73, c74, c75, c76, c77, c78, c79, c80, c81, c82, c83, c84, c85, c86, c87, c88, c89, c90, c91, c92, c93, c94, c95, c96, .func (.func 51) #[] #[.pointer (some ⟨K, 0, none⟩)], .string (ks.getD x e0), c99, c100, c101, c102, c103, c104, c105, c106, c107, c108, c109, c110], defers := [] }) ?assign ?body ?done ?stop
  case c1 =>
    intro g h0 hg h
    obtain ⟨g', h1, h2, _⟩ := kn.out.at_ h0
    rw [hg] at h1
    cases h1
    omega
  case hC => intro b h; have := sW.out; omega
  case hGd => exact fun _ _ _ _ _ _ _ h => h
  case hI =>
    rintro Z pre A B' hZ ⟨h1, h2, h3⟩ hb'
    have := sW.out
    exact ⟨h1.trans (hb'.bel.mono (by omega)), Boxed.blk h2 (hb'.bel.block _ (by omega)), Boxed.blk h3 (hb'.bel.block _ (by omega))⟩
  case hIx => exact fun _ _ _ _ _ _ h _ => h
  case assign =>
    intro l' x U K' hK
    gi_wp2
    exact hK
  case body =>
    rintro l' Z pre x U hZ hU ⟨hB, hL8, hF9⟩ ⟨hx1, hx2⟩
    subst hx1
    obtain ⟨q, Hq⟩ : ∃ q, Hid (pre.length = q) := ⟨_, rfl⟩
    rw [Hq.out] at hL8 hF9 hx2 ⊢
    obtain ⟨s, Hs⟩ : ∃ s, Hid (ks.getD q e0 = s) := ⟨_, rfl⟩
    obtain ⟨la, Hla⟩ : ∃ la, Hid (lastOf ks q = la) := ⟨_, rfl⟩
    obtain ⟨fq, Hfq⟩ : ∃ fq, Hid (fnd ks q = fq) := ⟨_, rfl⟩
    have UP := hN0.out.up q (by have := kl.out; omega)
    rw [Hs.out, Hla.out, Bool.or_eq_false_iff] at UP
    have u1 := UP.1
    have u2 := UP.2
    clear UP
    rw [Hla.out] at hL8
    rw [Hfq.out] at hF9
    rw [Hs.out]
    have c8 := hL8.cell
    have f8 := hL8.frozen
    obtain ⟨U1, HU1⟩ : ∃ U1, Hid (U.setCell ⟨P0.heap.size, 0, none⟩ (.string s) = U1) := ⟨_, rfl⟩
    have b81 : Boxed U1 P0.heap.size 9 (.string s) := by rw [← HU1.out]; exact hL8.set _
    have b91 : Boxed U1 (P0.heap.size + 1) 4 (.bool fq) := by rw [← HU1.out]; exact hF9.other (by omega) _
    have bel1 : Below P0.heap.size P0 U1 := by rw [← HU1.out]; exact hB.setCell (by show P0.heap.size ≤ P0.heap.size; omega) _
    have k1 : KeepC (fun b => b = P0.heap.size ∨ b = P0.heap.size + 1) W.heap.size Z U U1 := by rw [← HU1.out]; exact KeepC.of_set _ _ U ⟨P0.heap.size, 0, none⟩ _ (.inl (.inl rfl))
    have c9 : (U.setCell ⟨P0.heap.size, 0, none⟩ (.string s)).cell? ⟨P0.heap.size + 1, 0, none⟩ = some (.bool fq) := by rw [HU1.out]; exact b91.cell
    have f9 : (U.setCell ⟨P0.heap.size, 0, none⟩ (.string s)).frozen? ⟨P0.heap.size + 1, 0, none⟩ = false := by rw [HU1.out]; exact b91.frozen
    have fin : ∀ v : Bool, v = fnd ks (q + 1) → postC (fun b => b = P0.heap.size ∨ b = P0.heap.size + 1) W.heap.size Z (fun pre U => Below P0.heap.size P0 U ∧ Boxed U P0.heap.size 9 (.string (lastOf ks pre.length)) ∧ Boxed U (P0.heap.size + 1) 4 (.bool (fnd ks pre.length))) (fun _ _ _ => False) (pre ++ [q]) U .normal ⟨#[], []⟩ (U1.setCell ⟨P0.heap.size + 1, 0, none⟩ (.bool v)) := fun v hv => by
      have e1 : (pre ++ [q]).length = q + 1 := by rw [List.length_append, Hq.out]; rfl
      refine ⟨k1.trans (KeepC.of_set _ _ U1 ⟨P0.heap.size + 1, 0, none⟩ _ (.inl (.inr rfl))), bel1.setCell (by show P0.heap.size ≤ P0.heap.size + 1; omega) _, ?_, ?_⟩
      · rw [e1]
        have e2 : lastOf ks (q + 1) = s := by
          unfold lastOf
          rw [if_neg (by omega)]
          exact Hs.out
        rw [e2]
        exact b81.other (by omega) _
      · rw [e1, ← hv]
        exact b91.set _
    clear b81 b91 bel1 k1 hL8 hF9 hB
    cases fq with
    | true =>
      have F4 := fin true (by show true = (fnd ks q || decide (ks.getD q e0 = nF)); rw [Hfq.out]; rfl)
      clear fin
      have F5 : Hid (postC (fun b => b = P0.heap.size ∨ b = P0.heap.size + 1) W.heap.size Z (fun pre U => Below P0.heap.size P0 U ∧ Boxed U P0.heap.size 9 (.string (lastOf ks pre.length)) ∧ Boxed U (P0.heap.size + 1) 4 (.bool (fnd ks pre.length))) (fun _ _ _ => False) (pre ++ [q]) U .normal ⟨#[], []⟩ (U1.setCell ⟨P0.heap.size + 1, 0, none⟩ (.bool true))) := F4
      clear F4
      gi_wp2
      rw [HU1.out]
      exact F5.out
    | false =>
      by_cases hsf : s = nF
      · have F5 : Hid (postC (fun b => b = P0.heap.size ∨ b = P0.heap.size + 1) W.heap.size Z (fun pre U => Below P0.heap.size P0 U ∧ Boxed U P0.heap.size 9 (.string (lastOf ks pre.length)) ∧ Boxed U (P0.heap.size + 1) 4 (.bool (fnd ks pre.length))) (fun _ _ _ => False) (pre ++ [q]) U .normal ⟨#[], []⟩ (U1.setCell ⟨P0.heap.size + 1, 0, none⟩ (.bool true))) := fin true (by show true = (fnd ks q || decide (ks.getD q e0 = nF)); rw [Hfq.out, Hs.out]; simp [hsf])
        clear fin
        have n1 : (s.toList == (⟨#[102]⟩ : ByteArray).toList) = true := by rw [hsf]; simp
        have n2 : (s.toList == [102]) = true := by rw [hsf, ByteArray.toList_eq]; simp
        clear hsf
        gi_wp2
        rw [HU1.out]
        exact F5.out
      · have F5 : Hid (postC (fun b => b = P0.heap.size ∨ b = P0.heap.size + 1) W.heap.size Z (fun pre U => Below P0.heap.size P0 U ∧ Boxed U P0.heap.size 9 (.string (lastOf ks pre.length)) ∧ Boxed U (P0.heap.size + 1) 4 (.bool (fnd ks pre.length))) (fun _ _ _ => False) (pre ++ [q]) U .normal ⟨#[], []⟩ (U1.setCell ⟨P0.heap.size + 1, 0, none⟩ (.bool false))) := fin false (by show false = (fnd ks q || decide (ks.getD q e0 = nF)); rw [Hfq.out, Hs.out]; simp [hsf])
        clear fin
        have n0 : ¬ (s.data.toList = [102]) := fun e => hsf (by
          have h5 : s.data = #[102] := Array.ext' e
          cases s with
          | mk dd =>
            simp only at h5
            rw [h5])
        have n1 : (s.toList == (⟨#[102]⟩ : ByteArray).toList) = false := by
          rw [ByteArray.toList_eq, ByteArray.toList_eq]
          simpa using n0
        have n2 : (s.toList == [102]) = false := by
          rw [ByteArray.toList_eq]
          simpa using n0
        clear hsf n0
        gi_wp2
        rw [HU1.out]
        exact F5.out
  case done =>
    rintro D Z xs U hD hZ hS ⟨h1, h2, h3⟩ hKD
    subst hS
    rw [List.length_range, kl.out, hN0.out.has] at h3
    exact hN D U ⟨by have := sW.out; omega, h1, h3, hKD⟩
  case stop => exact fun _ _ _ _ _ _ _ _ h _ => h.elim
end Go.Proofs.YtdoenacobmebpaaDoor
