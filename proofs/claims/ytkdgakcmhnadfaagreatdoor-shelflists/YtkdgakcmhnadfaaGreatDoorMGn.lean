import Derived.Test.YtkdgakcmhnadfaaGreatDoorMGj
import Derived.Test.YtkdgakcmhnadfaaGreatDoorMGg
/- Gn -/
/- Head and Get of package frame, for all bytes. -/
/- errors turned -/
namespace Go.Proofs.YtkdgakcmhnadfaaGreatDoor
open Go.ChangeShapes Go.WideShapes Go.ChangeAt Go.RowKit
set_option maxRecDepth 20000
set_option linter.unusedVariables false
set_option linter.unusedSimpArgs false
theorem split_bad {w : World} {a : Option Addr} {n c M k : Nat} {F : List Nat} {E : Nat → Addr} (hS : Hid (Sln w a n F)) (hc : Hid (a = none → c = 0)) (hM : Hid (Mst w)) (hE : Hid (Sent w M E)) (h4 : 8 ≤ M) (hk : Hid ((hdF F).1 = k)) (h0 : k ≠ 0) :
    Calls Tryz.prog 87 #[.slice a n c] w fun e w' => e = .returned (.tuple #[.agg (cs .i64 Z7), .slice none 0 0, .iface 273 (.pointer (some (E (era k))))]) ∧ Hid (Below w.heap.size w w') := by
  by_cases h1 : (rdB F 0 256).2.1 = 0
  · by_cases h2 : (opn (rdB F 0 256).1).2 = 0
    · cases h3 : hdN (opn (rdB F 0 256).1).1 with
      | none =>
        have e := hk.out
        rw [hdF_none h1 h2 h3] at e
        rw [← e]
        exact split_b3 hS hc hM hE h4 h1 h2 h3
      | some ns =>
        have e := hk.out
        rw [hdF_some h1 h2 h3] at e
        exact absurd e.symm h0
    · have e := hk.out
      rw [hdF_open h1 h2] at e
      rw [← e]
      exact split_b2 hS hc hM hE h4 h1 h2
  · have e := hk.out
    rw [hdF_list h1] at e
    rw [← e]
    exact split_b1 hS hc hM hE h4 h1
theorem split_good {w : World} {a : Option Addr} {n c M p : Nat} {F ns : List Nat} {E : Nat → Addr} (hS : Hid (Sln w a n F)) (hc : Hid (a = none → c = 0)) (hnc : n ≤ c) (hM : Hid (Mst w)) (hE : Hid (Sent w M E)) (h4 : 8 ≤ M) (h : Hid (hdF F = (0, ns, p))) :
    Calls Tryz.prog 87 #[.slice a n c] w fun e w' => ∃ av, e = .returned (.tuple #[.agg (cs .i64 ns), .slice av (n - p) (c - p), .nilIface]) ∧ Hid (sfrom a c p = av ∧ Below w.heap.size w w') := by
  obtain ⟨h1, h2, h3, h5⟩ := hdF_ok h.out
  exact split_ok hS hc hnc hM hE h4 h1 h2 h3 h5
theorem seven {ns : List Nat} (h : ns.length = 7) : ∃ x0 x1 x2 x3 x4 x5 x6, ns = [x0, x1, x2, x3, x4, x5, x6] := by
  match ns, h with
  | [x0, x1, x2, x3, x4, x5, x6], _ => exact ⟨x0, x1, x2, x3, x4, x5, x6, rfl⟩
/- the result's variable of a stamp -/
structure Stp (w wr : World) : Prop where
  out : Arr .i64 45 wr w.heap.size Z5
  bel : Below w.heap.size w wr
theorem Stp.below {w wr w2 : World} (h : Stp w wr) (hb : Below wr.heap.size wr w2) : Stp w w2 := ⟨h.out.below hb h.out.lt, h.bel.trans (hb.mono h.bel.size)⟩
theorem Stp.first (w : World) : Stp w (w.alloc (.cells (cs .i64 Z5) 45)) := ⟨Arr.new w .i64 45 Z5, (Below.refl _ w).alloc (Nat.le_refl _) _⟩
set_option maxHeartbeats 2000000 in
theorem get_bad {w : World} {a : Option Addr} {n c M : Nat} {F : List Nat} {E : Nat → Addr} (hS : Hid (Sln w a n F)) (hc : Hid (a = none → c = 0)) (hnc : n ≤ c) (hM : Hid (Mst w)) (hE : Hid (Sent w M E)) (h4 : 8 ≤ M) {k : Nat} (hk : Hid ((hdF F).1 = k)) (h0 : k ≠ 0) :
    Calls Tryz.prog 53 #[.slice a n c] w fun e w' => e = .returned (.tuple #[.agg (cs .i64 Z5), .slice none 0 0, .iface 273 (.pointer (some (E (era k))))]) ∧ Hid (Below w.heap.size w w') := by
  obtain ⟨W0, HW0⟩ : ∃ W0, Hid (w.alloc (.cells #[.int .i64 0, .int .i64 0, .int .i64 0, .int .i64 0, .int .i64 0] 45) = W0) := ⟨_, rfl⟩
  have T0 : Hid (Stp w W0) := by rw [← HW0.out]; exact Stp.first w
  have S0 : Hid (Sln W0 a n F) := hS.out.below T0.out.bel
  have M0 : Hid (Mst W0) := hM.out.below T0.out.bel hM.out.lt
  have E0 : Hid (Sent W0 M E) := hE.out.below T0.out.bel
  go_enter Tryz.func53, Tryz.ntmps53
  go_wp2_with (first
    | (go_at_call 87; rw [HW0.out]; refine (split_bad S0 hc M0 E0 h4 hk h0).mono ?_; rintro e w1 ⟨rfl, H1⟩
       have T1 : Hid (Stp w w1) := T0.out.below H1.out
       have A1 : Hid (Arr .i64 138 (w1.alloc (.cells (cs .i64 Z7) 138)) w1.heap.size Z7) := Arr.new _ _ _ _
       obtain ⟨WX, HWX⟩ : ∃ WX, Hid ((w1.alloc (.cells (cs .i64 Z7) 138)).setRow w1.heap.size (cs .i64 Z7) = WX) := ⟨_, rfl⟩
       have TX : Hid (Stp w WX) := by rw [← HWX.out]; exact T1.out.below (below_arr w1 _ _ _ _)
       have AX : Hid (Arr .i64 45 WX w.heap.size Z5) := TX.out.out)
    | (refine wpList_st0 (k := .i64) (t := 138) (l := Z7) (l2 := Z7) (by rfl) (by rfl) 138 (.tmp 5) (.tmp 13) (by rfl) (by rfl) (by rfl) A1 sz64 (by rfl) ?_; refine (show _ = WX from HWX.out) ▸ ?_)
    | (refine wpList_st0 (k := .i64) (t := 45) (l := Z5) (l2 := Z5) (by rfl) (by rfl) 45 (.tmp 2) (.tmp 18) (by rfl) (by rfl) (by rfl) AX sz25s (by rfl) ?_))
  have FIN : Hid (Below w.heap.size w (WX.setRow w.heap.size (cs .i64 Z5))) := (Oth.setRow _).below TX.out.bel (Nat.le_refl _)
  refine bodyPost_ret (res_arr3 (by rfl) (by rfl) (AX.out.setRow Z5) und25s sz25s) rfl ?_
  exact ⟨rfl, FIN.out⟩
end Go.Proofs.YtkdgakcmhnadfaaGreatDoor

/- Go -/
/- Get of package frame, behind a good head. -/
/- errors turned -/
namespace Go.Proofs.YtkdgakcmhnadfaaGreatDoor
open Go.ChangeShapes Go.WideShapes Go.ChangeAt Go.RowKit
set_option maxRecDepth 20000
set_option linter.unusedVariables false
set_option linter.unusedSimpArgs false
theorem rdN_bound {l : List Nat} {p : Nat} {z : Int} (h : (rdN l p z).2.1 = 0) : ((rdN l p z).1 : Int) ≤ z := by
  unfold rdN at h ⊢
  split
  · rename_i h1; exact h1.2
  · rename_i h1; rw [if_neg h1] at h; cases h
theorem rdS_bound {l : List Nat} {zs : List Int} : ∀ {k p : Nat} {ns : List Nat}, rdS l zs k = some (ns, p) → ∀ i, i < k → ((ns.getD i 0 : Nat) : Int) ≤ zs.getD i 0
  | 0, p, ns, h => fun i hi => by omega
  | k + 1, p, ns, h => by
    simp only [rdS] at h
    cases hk : rdS l zs k with
    | none => rw [hk] at h; cases h
    | some r =>
      obtain ⟨ns', p'⟩ := r
      rw [hk] at h
      dsimp only at h
      split at h
      · rename_i h0
        simp only [Option.some.injEq, Prod.mk.injEq] at h
        have hl := rdS_len hk
        intro i hi
        rw [← h.1]
        by_cases e : i = k
        · have e1 : (ns' ++ [(rdN l p' (zs.getD k 0)).1]).getD i 0 = (rdN l p' (zs.getD k 0)).1 := by
            rw [e, ← hl]
            simp [List.getD]
          rw [e1, e]
          exact rdN_bound h0
        · have e1 : (ns' ++ [(rdN l p' (zs.getD k 0)).1]).getD i 0 = ns'.getD i 0 := by
            simp only [List.getD]
            rw [List.getElem?_append_left (by omega)]
          rw [e1]
          exact rdS_bound hk i (by omega)
      · cases h
theorem hdN_bound {l ns : List Nat} (h : hdN l = some ns) : ∀ i, i < 7 → ((ns.getD i 0 : Nat) : Int) ≤ mostL.getD i 0 := by
  unfold hdN at h
  cases hk : rdS l mostL 7 with
  | none => rw [hk] at h; cases h
  | some r =>
    obtain ⟨ns', p⟩ := r
    rw [hk] at h
    dsimp only at h
    split at h
    · simp only [Option.some.injEq] at h
      rw [← h]
      exact rdS_bound hk
    · cases h
theorem hdF_six {F : List Nat} {x0 x1 x2 x3 x4 x5 x6 p : Nat} (h : hdF F = (0, [x0, x1, x2, x3, x4, x5, x6], p)) : x6 ≤ 1024 := by
  obtain ⟨_, _, h3, _⟩ := hdF_ok h
  have h1 := hdN_bound h3 6 (by omega)
  simp [mostL] at h1
  omega
theorem hdF_le {F ns : List Nat} {p : Nat} (h : hdF F = (0, ns, p)) : p ≤ F.length := by
  obtain ⟨h1, _, _, h4⟩ := hdF_ok h
  rw [← h4]
  unfold rdB at h1 ⊢
  split
  · rename_i h5; dsimp only; omega
  · rename_i h5; rw [if_neg h5] at h1; cases h1
theorem shard_ok {w : World} {a : Option Addr} {n c : Nat} {B : List Nat} (hS : Hid (Sln w a n B)) (hc : Hid (a = none → c = 0)) (hnc : n ≤ c) (hz : ∃ z, z ≤ 1024 ∧ n = z + 32 * blks z) (hK : Hid (Kst w)) (h0 : Hid (21 < w.heap.size)) (hd : Hid (∀ i, i < pcs n → gdB B i = true)) :
    Calls Tryz.prog 90 #[.slice a n c] w fun e w' => ∃ a' m c', e = .returned (.tuple #[.slice a' m c', .bool true]) ∧ Hid (Own w' w.heap.size a' m c' (shK B (pcs n)) ∧ Below w.heap.size w w') := by
  refine (shardOf_n hS hc hnc hz hK h0).mono ?_
  rintro e w' ⟨a', m, c', ok, h1, H⟩
  rcases H.out.2 with ⟨h2, h3, h4⟩ | ⟨h2, ⟨i, h3, h4⟩, _⟩
  · rw [h2] at h1; exact ⟨a', m, c', h1, h4, H.out.1⟩
  · rw [hd.out i h3] at h4; cases h4
theorem shard_bad {w : World} {a : Option Addr} {n c : Nat} {B : List Nat} (hS : Hid (Sln w a n B)) (hc : Hid (a = none → c = 0)) (hnc : n ≤ c) (hz : ∃ z, z ≤ 1024 ∧ n = z + 32 * blks z) (hK : Hid (Kst w)) (h0 : Hid (21 < w.heap.size)) (hd : Hid (∃ i, i < pcs n ∧ gdB B i = false)) :
    Calls Tryz.prog 90 #[.slice a n c] w fun e w' => e = .returned (.tuple #[.slice none 0 0, .bool false]) ∧ Hid (Below w.heap.size w w') := by
  refine (shardOf_n hS hc hnc hz hK h0).mono ?_
  rintro e w' ⟨a', m, c', ok, h1, H⟩
  rcases H.out.2 with ⟨h2, h3, h4⟩ | ⟨h2, _, h4, h5, h6⟩
  · obtain ⟨i, h7, h8⟩ := hd.out
    rw [h3 i h7] at h8; cases h8
  · rw [h2, h4, h5, h6] at h1; exact ⟨h1, H.out.1⟩
set_option maxHeartbeats 4000000 in
theorem get_len {w : World} {a : Option Addr} {n c M : Nat} {F : List Nat} {E : Nat → Addr} (hS : Hid (Sln w a n F)) (hc : Hid (a = none → c = 0)) (hnc : n ≤ c) (hM : Hid (Mst w)) (hE : Hid (Sent w M E)) (h4 : 8 ≤ M) {x0 x1 x2 x3 x4 x5 x6 p : Nat} (h : Hid (hdF F = (0, [x0, x1, x2, x3, x4, x5, x6], p))) (hl : Hid (n - p ≠ x6 + 32 * blks x6)) :
    Calls Tryz.prog 53 #[.slice a n c] w fun e w' => e = .returned (.tuple #[.agg (cs .i64 Z5), .slice none 0 0, .iface 273 (.pointer (some (E 6)))]) ∧ Hid (Below w.heap.size w w') := by
  obtain ⟨W0, HW0⟩ : ∃ W0, Hid (w.alloc (.cells #[.int .i64 0, .int .i64 0, .int .i64 0, .int .i64 0, .int .i64 0] 45) = W0) := ⟨_, rfl⟩
  have T0 : Hid (Stp w W0) := by rw [← HW0.out]; exact Stp.first w
  have S0 : Hid (Sln W0 a n F) := hS.out.below T0.out.bel
  have M0 : Hid (Mst W0) := hM.out.below T0.out.bel hM.out.lt
  have E0 : Hid (Sent W0 M E) := hE.out.below T0.out.bel
  have x6b : x6 ≤ 1024 := hdF_six h.out
  have pn : Hid (p ≤ n) := by have h5 := hdF_le h.out; have h6 := hS.out.len; show _ ≤ _; omega
  obtain ⟨bs, HBS⟩ : ∃ bs, Hid (x6 + (x6 + 31) / 32 * 32 = bs) := ⟨_, rfl⟩
  obtain ⟨m, HMM⟩ : ∃ m, Hid (n - p = m) := ⟨_, rfl⟩
  have i1 : ((m : Int) == (bs : Int)) = false := by have h7 := hl.out; unfold blks at h7; have h8 := HBS.out; have h9 := HMM.out; simp; omega
  have i2 : ((m : Int) != (bs : Int)) = true := by simp at i1 ⊢; exact i1
  go_enter Tryz.func53, Tryz.ntmps53
  go_upto_region 5 with (first
    | (go_at_call 87; rw [HW0.out]; refine (split_good S0 hc hnc M0 E0 h4 h).mono ?_; rintro e w1 ⟨av, rfl, H1⟩
       rw [HMM.out]
       have T1 : Hid (Stp w w1) := T0.out.below H1.out.2
       have A1 : Hid (Arr .i64 138 (w1.alloc (.cells (cs .i64 Z7) 138)) w1.heap.size Z7) := Arr.new _ _ _ _
       obtain ⟨WX, HWX⟩ : ∃ WX, Hid ((w1.alloc (.cells (cs .i64 Z7) 138)).setRow w1.heap.size (cs .i64 [x0, x1, x2, x3, x4, x5, x6]) = WX) := ⟨_, rfl⟩
       have TX : Hid (Stp w WX) := by rw [← HWX.out]; exact T1.out.below (below_arr w1 _ _ _ _)
       have AX : Hid (Arr .i64 138 WX w1.heap.size [x0, x1, x2, x3, x4, x5, x6]) := by rw [← HWX.out]; exact A1.out.setRow [x0, x1, x2, x3, x4, x5, x6]
       have RG : Hid (Rng .i64 WX w1.heap.size 0 [x0, x1, x2, x3, x4, x5, x6]) := AX.out.rng)
    | (refine wpList_st0 (k := .i64) (t := 138) (l := Z7) (l2 := [x0, x1, x2, x3, x4, x5, x6]) (by rfl) (by rfl) 138 (.tmp 5) (.tmp 13) (by rfl) (by rfl) (by rfl) A1 sz64 (by rfl) ?_; refine (show _ = WX from HWX.out) ▸ ?_)
    | (refine wpList_ld (k := .i64) (by rfl) 138 (.tmp 5) (by rfl) (by rfl) RG und64 sz64 ?_)
    | (go_at_call 89; refine (size_n x0 x1 x2 x3 x4 x5 x6 _).mono ?_; rintro e w2 ⟨rfl, H2⟩
       have T2 : Hid (Stp w w2) := TX.out.below H2.out
       have A2 : Hid (Arr .i64 138 w2 w1.heap.size [x0, x1, x2, x3, x4, x5, x6]) := AX.out.below H2.out AX.out.lt)
    | (go_at_call 88; refine (bodySize_n x6 (by omega) _).mono ?_; rintro e w2' ⟨rfl, h22⟩; rw [h22, HBS.out]; clear h22))
  obtain ⟨WE, HWE⟩ : ∃ WE, Hid (w2 = WE) := ⟨_, rfl⟩
  have TE : Hid (Stp w WE) := by rw [← HWE.out]; exact T2.out
  rw [HWE.out]
  clear H1 T1 A1 HWX TX AX RG H2 T2 A2
  have AO : Hid (Arr .i64 45 WE.drew w.heap.size Z5) := TE.out.out
  have ce : WE.drew.cell? ⟨6, 0, none⟩ = some (.iface 273 (.pointer (some (E 6)))) := (hE.out.below TE.out.bel).c 6 (by omega)
  have w18 := hM.out.lt
  have cs3 : (WE.drew.setRow w.heap.size (cs .i64 Z5)).cell? ⟨6, 0, none⟩ = some (.iface 273 (.pointer (some (E 6)))) := (World.cell?_of_block (setRow_other WE.drew w.heap.size 6 _ (by omega))).trans ce
  have FIN : Hid (Below w.heap.size w (WE.drew.setRow w.heap.size (cs .i64 Z5))) := (Oth.setRow _).below TE.out.bel.drew (Nat.le_refl _)
  refine wp_region_till (S := fun L W => W.cell? ⟨6, 0, none⟩ = some (.iface 273 (.pointer (some (E 6))))) (by kernel_rfl) ce (fun hS => ?_)
  refine till_take (i := 0) (v := .agg #[.int .i64 0, .int .i64 0, .int .i64 0, .int .i64 0, .int .i64 0]) rfl (by kernel_rfl) (by kernel_rfl) (by kernel_rfl) (fun _ _ _ h => h) (fun L w => Iff.rfl) (Or.inl ⟨by rfl, fun w => by go_simp⟩) hS (fun hSb => ?_)
  simp only [List.getElem_toArray, List.getElem_cons_zero, List.getElem_cons_succ, Act.put, List.setIfInBounds_toArray, List.set_cons_zero, List.set_cons_succ]
  clear hS
  refine till_read (i := 1) (c := 4) (v := .iface 273 (.pointer (some (E 6)))) (T := fun W => W.cell? ⟨6, 0, none⟩ = some (.iface 273 (.pointer (some (E 6))))) rfl rfl (by kernel_rfl) (by kernel_rfl) (by kernel_rfl) (by kernel_rfl) (by kernel_rfl) (fun _ _ _ h => h) (fun L w => Iff.rfl) (fun L w h1 h2 => h2) (Or.inl ⟨by rfl, fun w hSw => by go_simp⟩) hSb (fun hS => ?_)
  simp only [List.getElem_toArray, List.getElem_cons_zero, List.getElem_cons_succ, Act.put, List.setIfInBounds_toArray, List.set_cons_zero, List.set_cons_succ]
  clear hSb
  refine till_one (i := 2) (by kernel_rfl) rfl (fun K hK => ?_)
  simp only [List.getElem_toArray, List.getElem_cons_zero, List.getElem_cons_succ]
  rw [if_pos (by rfl)]
  refine wp_st (k := .i64) (t := 45) (l := Z5) (l2 := Z5) (by rfl) 45 (.tmp 2) (.tmp 26) (by rfl) (by rfl) (by rfl) AO.out sz25s (by rfl) ?_
  refine hK.out _ _ (cs3) (fun hSb => ?_)
  clear hK K
  try simp only [List.getElem_toArray, List.getElem_cons_zero, List.getElem_cons_succ, Act.put, List.setIfInBounds_toArray, List.set_cons_zero, List.set_cons_succ]
  clear hS
  refine till_one (i := 3) (by kernel_rfl) rfl (fun K hK => ?_)
  simp only [List.getElem_toArray, List.getElem_cons_zero, List.getElem_cons_succ]
  rw [if_pos (by rfl)]
  go_simp
  refine hK.out _ _ (hSb) (fun hS => ?_)
  clear hK K
  try simp only [List.getElem_toArray, List.getElem_cons_zero, List.getElem_cons_succ, Act.put, List.setIfInBounds_toArray, List.set_cons_zero, List.set_cons_succ]
  clear hSb
  refine till_one (i := 4) (by kernel_rfl) rfl (fun K hK => ?_)
  simp only [List.getElem_toArray, List.getElem_cons_zero, List.getElem_cons_succ]
  rw [if_pos (by rfl)]
  go_simp
  refine hK.out _ _ (hS) (fun hSb => ?_)
  clear hK K
  try simp only [List.getElem_toArray, List.getElem_cons_zero, List.getElem_cons_succ, Act.put, List.setIfInBounds_toArray, List.set_cons_zero, List.set_cons_succ]
  clear hS
  refine till_done (by kernel_rfl) ?_ _
  clear hSb
  go_wp2
  refine bodyPost_ret (res_arr3 (by rfl) (by rfl) (AO.out.setRow Z5) und25s sz25s) rfl ?_
  exact ⟨rfl, FIN.out⟩
set_option maxHeartbeats 4000000 in
theorem get_dig {w : World} {a : Option Addr} {n c M : Nat} {F : List Nat} {E : Nat → Addr} (hS : Hid (Sln w a n F)) (hc : Hid (a = none → c = 0)) (hnc : n ≤ c) (hM : Hid (Mst w)) (hE : Hid (Sent w M E)) (h4 : 8 ≤ M) {x0 x1 x2 x3 x4 x5 x6 p : Nat} (h : Hid (hdF F = (0, [x0, x1, x2, x3, x4, x5, x6], p))) (hK : Hid (Kst w)) (hl : Hid (n - p = x6 + 32 * blks x6)) (hd : Hid (∃ i, i < pcs (n - p) ∧ gdB (F.drop p) i = false)) :
    Calls Tryz.prog 53 #[.slice a n c] w fun e w' => e = .returned (.tuple #[.agg (cs .i64 Z5), .slice none 0 0, .iface 273 (.pointer (some (E 7)))]) ∧ Hid (Below w.heap.size w w') := by
  obtain ⟨W0, HW0⟩ : ∃ W0, Hid (w.alloc (.cells #[.int .i64 0, .int .i64 0, .int .i64 0, .int .i64 0, .int .i64 0] 45) = W0) := ⟨_, rfl⟩
  have T0 : Hid (Stp w W0) := by rw [← HW0.out]; exact Stp.first w
  have S0 : Hid (Sln W0 a n F) := hS.out.below T0.out.bel
  have M0 : Hid (Mst W0) := hM.out.below T0.out.bel hM.out.lt
  have E0 : Hid (Sent W0 M E) := hE.out.below T0.out.bel
  have x6b : x6 ≤ 1024 := hdF_six h.out
  have pn : Hid (p ≤ n) := by have h5 := hdF_le h.out; have h6 := hS.out.len; show _ ≤ _; omega
  obtain ⟨bs, HBS⟩ : ∃ bs, Hid (x6 + (x6 + 31) / 32 * 32 = bs) := ⟨_, rfl⟩
  obtain ⟨m, HMM⟩ : ∃ m, Hid (n - p = m) := ⟨_, rfl⟩
  have i1 : ((m : Int) == (bs : Int)) = true := by have h7 := hl.out; unfold blks at h7; have h8 := HBS.out; have h9 := HMM.out; simp; omega
  have i2 : ((m : Int) != (bs : Int)) = false := by simp at i1 ⊢; exact i1
  go_enter Tryz.func53, Tryz.ntmps53
  go_upto_region 6 with (first
    | (go_at_call 87; rw [HW0.out]; refine (split_good S0 hc hnc M0 E0 h4 h).mono ?_; rintro e w1 ⟨av, rfl, H1⟩
       rw [HMM.out]
       have T1 : Hid (Stp w w1) := T0.out.below H1.out.2
       have A1 : Hid (Arr .i64 138 (w1.alloc (.cells (cs .i64 Z7) 138)) w1.heap.size Z7) := Arr.new _ _ _ _
       obtain ⟨WX, HWX⟩ : ∃ WX, Hid ((w1.alloc (.cells (cs .i64 Z7) 138)).setRow w1.heap.size (cs .i64 [x0, x1, x2, x3, x4, x5, x6]) = WX) := ⟨_, rfl⟩
       have TX : Hid (Stp w WX) := by rw [← HWX.out]; exact T1.out.below (below_arr w1 _ _ _ _)
       have AX : Hid (Arr .i64 138 WX w1.heap.size [x0, x1, x2, x3, x4, x5, x6]) := by rw [← HWX.out]; exact A1.out.setRow [x0, x1, x2, x3, x4, x5, x6]
       have RG : Hid (Rng .i64 WX w1.heap.size 0 [x0, x1, x2, x3, x4, x5, x6]) := AX.out.rng)
    | (refine wpList_st0 (k := .i64) (t := 138) (l := Z7) (l2 := [x0, x1, x2, x3, x4, x5, x6]) (by rfl) (by rfl) 138 (.tmp 5) (.tmp 13) (by rfl) (by rfl) (by rfl) A1 sz64 (by rfl) ?_; refine (show _ = WX from HWX.out) ▸ ?_)
    | (refine wpList_ld (k := .i64) (by rfl) 138 (.tmp 5) (by rfl) (by rfl) RG und64 sz64 ?_)
    | (go_at_call 89; refine (size_n x0 x1 x2 x3 x4 x5 x6 _).mono ?_; rintro e w2 ⟨rfl, H2⟩
       have T2 : Hid (Stp w w2) := TX.out.below H2.out
       have A2 : Hid (Arr .i64 138 w2 w1.heap.size [x0, x1, x2, x3, x4, x5, x6]) := AX.out.below H2.out AX.out.lt)
    | (go_at_call 88; refine (bodySize_n x6 (by omega) _).mono ?_; rintro e w2' ⟨rfl, h22⟩; rw [h22, HBS.out]; clear h22))
  have B2 : Hid (Below w.heap.size w w2) := T2.out.bel
  have S2 : Hid (Sln w2 av m (F.drop p)) := by
    have h6 := (slice_from hS.out pn.out hnc).below B2.out
    rw [← H1.out.1, ← HMM.out]
    exact h6
  have Z2 : Hid (av = none → c - p = 0) := by
    rw [← H1.out.1]
    intro h6
    unfold sfrom at h6
    split at h6
    · rename_i h7; omega
    · have h8 : a = none := by cases a with
        | none => rfl
        | some x => simp at h6
      have := hc.out h8
      omega
  have N2 : m ≤ c - p := by have h7 := HMM.out; omega
  have X2 : ∃ z, z ≤ 1024 ∧ m = z + 32 * blks z := ⟨x6, x6b, by rw [← HMM.out]; exact hl.out⟩
  have K2 : Hid (Kst w2) := hK.out.below B2.out (kst_pos hK.out)
  have Y2 : Hid (21 < w2.heap.size) := Nat.lt_of_lt_of_le (kst_pos hK.out) B2.out.size
  rw [HMM.out] at hd
  go_wp2_with (go_at_call 90; refine (shard_bad S2 Z2 N2 X2 K2 Y2 hd).mono ?_; rintro e WE ⟨rfl, H3⟩
               have TE : Hid (Stp w WE) := T2.out.below H3.out)
  clear H1 T1 A1 HWX TX AX RG H2 T2 A2
  have AO : Hid (Arr .i64 45 WE.drew w.heap.size Z5) := TE.out.out
  have ce : WE.drew.cell? ⟨7, 0, none⟩ = some (.iface 273 (.pointer (some (E 7)))) := (hE.out.below TE.out.bel).c 7 (by omega)
  have w18 := hM.out.lt
  have cs3 : (WE.drew.setRow w.heap.size (cs .i64 Z5)).cell? ⟨7, 0, none⟩ = some (.iface 273 (.pointer (some (E 7)))) := (World.cell?_of_block (setRow_other WE.drew w.heap.size 7 _ (by omega))).trans ce
  have FIN : Hid (Below w.heap.size w (WE.drew.setRow w.heap.size (cs .i64 Z5))) := (Oth.setRow _).below TE.out.bel.drew (Nat.le_refl _)
  refine wp_region_till (S := fun L W => W.cell? ⟨7, 0, none⟩ = some (.iface 273 (.pointer (some (E 7))))) (by kernel_rfl) ce (fun hS => ?_)
  refine till_take (i := 0) (v := .agg #[.int .i64 0, .int .i64 0, .int .i64 0, .int .i64 0, .int .i64 0]) rfl (by kernel_rfl) (by kernel_rfl) (by kernel_rfl) (fun _ _ _ h => h) (fun L w => Iff.rfl) (Or.inl ⟨by rfl, fun w => by go_simp⟩) hS (fun hSb => ?_)
  simp only [List.getElem_toArray, List.getElem_cons_zero, List.getElem_cons_succ, Act.put, List.setIfInBounds_toArray, List.set_cons_zero, List.set_cons_succ]
  clear hS
  refine till_read (i := 1) (c := 4) (v := .iface 273 (.pointer (some (E 7)))) (T := fun W => W.cell? ⟨7, 0, none⟩ = some (.iface 273 (.pointer (some (E 7))))) rfl rfl (by kernel_rfl) (by kernel_rfl) (by kernel_rfl) (by kernel_rfl) (by kernel_rfl) (fun _ _ _ h => h) (fun L w => Iff.rfl) (fun L w h1 h2 => h2) (Or.inl ⟨by rfl, fun w hSw => by go_simp⟩) hSb (fun hS => ?_)
  simp only [List.getElem_toArray, List.getElem_cons_zero, List.getElem_cons_succ, Act.put, List.setIfInBounds_toArray, List.set_cons_zero, List.set_cons_succ]
  clear hSb
  refine till_one (i := 2) (by kernel_rfl) rfl (fun K hK => ?_)
  simp only [List.getElem_toArray, List.getElem_cons_zero, List.getElem_cons_succ]
  rw [if_pos (by rfl)]
  refine wp_st (k := .i64) (t := 45) (l := Z5) (l2 := Z5) (by rfl) 45 (.tmp 2) (.tmp 35) (by rfl) (by rfl) (by rfl) AO.out sz25s (by rfl) ?_
  refine hK.out _ _ (cs3) (fun hSb => ?_)
  clear hK K
  try simp only [List.getElem_toArray, List.getElem_cons_zero, List.getElem_cons_succ, Act.put, List.setIfInBounds_toArray, List.set_cons_zero, List.set_cons_succ]
  clear hS
  refine till_one (i := 3) (by kernel_rfl) rfl (fun K hK => ?_)
  simp only [List.getElem_toArray, List.getElem_cons_zero, List.getElem_cons_succ]
  rw [if_pos (by rfl)]
  go_simp
  refine hK.out _ _ (hSb) (fun hS => ?_)
  clear hK K
  try simp only [List.getElem_toArray, List.getElem_cons_zero, List.getElem_cons_succ, Act.put, List.setIfInBounds_toArray, List.set_cons_zero, List.set_cons_succ]
  clear hSb
  refine till_one (i := 4) (by kernel_rfl) rfl (fun K hK => ?_)
  simp only [List.getElem_toArray, List.getElem_cons_zero, List.getElem_cons_succ]
  rw [if_pos (by rfl)]
  go_simp
  refine hK.out _ _ (hS) (fun hSb => ?_)
  clear hK K
  try simp only [List.getElem_toArray, List.getElem_cons_zero, List.getElem_cons_succ, Act.put, List.setIfInBounds_toArray, List.set_cons_zero, List.set_cons_succ]
  clear hS
  refine till_done (by kernel_rfl) ?_ _
  clear hSb
  go_wp2
  refine bodyPost_ret (res_arr3 (by rfl) (by rfl) (AO.out.setRow Z5) und25s sz25s) rfl ?_
  exact ⟨rfl, FIN.out⟩
set_option maxHeartbeats 4000000 in
theorem get_ok {w : World} {a : Option Addr} {n c M : Nat} {F : List Nat} {E : Nat → Addr} (hS : Hid (Sln w a n F)) (hc : Hid (a = none → c = 0)) (hnc : n ≤ c) (hM : Hid (Mst w)) (hE : Hid (Sent w M E)) (h4 : 8 ≤ M) {x0 x1 x2 x3 x4 x5 x6 p : Nat} (h : Hid (hdF F = (0, [x0, x1, x2, x3, x4, x5, x6], p))) (hK : Hid (Kst w)) (hl : Hid (n - p = x6 + 32 * blks x6)) (hd : Hid (∀ i, i < pcs (n - p) → gdB (F.drop p) i = true)) :
    Calls Tryz.prog 53 #[.slice a n c] w fun e w' => ∃ a' m' c', e = .returned (.tuple #[.agg (cs .i64 [x1, x2, x3, x4, x5]), .slice a' m' c', .nilIface]) ∧ Hid (Own w' w.heap.size a' m' c' (shK (F.drop p) (pcs (n - p))) ∧ Below w.heap.size w w') := by
  obtain ⟨W0, HW0⟩ : ∃ W0, Hid (w.alloc (.cells #[.int .i64 0, .int .i64 0, .int .i64 0, .int .i64 0, .int .i64 0] 45) = W0) := ⟨_, rfl⟩
  have T0 : Hid (Stp w W0) := by rw [← HW0.out]; exact Stp.first w
  have S0 : Hid (Sln W0 a n F) := hS.out.below T0.out.bel
  have M0 : Hid (Mst W0) := hM.out.below T0.out.bel hM.out.lt
  have E0 : Hid (Sent W0 M E) := hE.out.below T0.out.bel
  have x6b : x6 ≤ 1024 := hdF_six h.out
  have pn : Hid (p ≤ n) := by have h5 := hdF_le h.out; have h6 := hS.out.len; show _ ≤ _; omega
  obtain ⟨bs, HBS⟩ : ∃ bs, Hid (x6 + (x6 + 31) / 32 * 32 = bs) := ⟨_, rfl⟩
  obtain ⟨m, HMM⟩ : ∃ m, Hid (n - p = m) := ⟨_, rfl⟩
  have i1 : ((m : Int) == (bs : Int)) = true := by have h7 := hl.out; unfold blks at h7; have h8 := HBS.out; have h9 := HMM.out; simp; omega
  have i2 : ((m : Int) != (bs : Int)) = false := by simp at i1 ⊢; exact i1
  go_enter Tryz.func53, Tryz.ntmps53
  go_upto_region 6 with (first
    | (go_at_call 87; rw [HW0.out]; refine (split_good S0 hc hnc M0 E0 h4 h).mono ?_; rintro e w1 ⟨av, rfl, H1⟩
       rw [HMM.out]
       have T1 : Hid (Stp w w1) := T0.out.below H1.out.2
       have A1 : Hid (Arr .i64 138 (w1.alloc (.cells (cs .i64 Z7) 138)) w1.heap.size Z7) := Arr.new _ _ _ _
       obtain ⟨WX, HWX⟩ : ∃ WX, Hid ((w1.alloc (.cells (cs .i64 Z7) 138)).setRow w1.heap.size (cs .i64 [x0, x1, x2, x3, x4, x5, x6]) = WX) := ⟨_, rfl⟩
       have TX : Hid (Stp w WX) := by rw [← HWX.out]; exact T1.out.below (below_arr w1 _ _ _ _)
       have AX : Hid (Arr .i64 138 WX w1.heap.size [x0, x1, x2, x3, x4, x5, x6]) := by rw [← HWX.out]; exact A1.out.setRow [x0, x1, x2, x3, x4, x5, x6]
       have RG : Hid (Rng .i64 WX w1.heap.size 0 [x0, x1, x2, x3, x4, x5, x6]) := AX.out.rng)
    | (refine wpList_st0 (k := .i64) (t := 138) (l := Z7) (l2 := [x0, x1, x2, x3, x4, x5, x6]) (by rfl) (by rfl) 138 (.tmp 5) (.tmp 13) (by rfl) (by rfl) (by rfl) A1 sz64 (by rfl) ?_; refine (show _ = WX from HWX.out) ▸ ?_)
    | (refine wpList_ld (k := .i64) (by rfl) 138 (.tmp 5) (by rfl) (by rfl) RG und64 sz64 ?_)
    | (go_at_call 89; refine (size_n x0 x1 x2 x3 x4 x5 x6 _).mono ?_; rintro e w2 ⟨rfl, H2⟩
       have T2 : Hid (Stp w w2) := TX.out.below H2.out
       have A2 : Hid (Arr .i64 138 w2 w1.heap.size [x0, x1, x2, x3, x4, x5, x6]) := AX.out.below H2.out AX.out.lt)
    | (go_at_call 88; refine (bodySize_n x6 (by omega) _).mono ?_; rintro e w2' ⟨rfl, h22⟩; rw [h22, HBS.out]; clear h22))
  have B2 : Hid (Below w.heap.size w w2) := T2.out.bel
  have S2 : Hid (Sln w2 av m (F.drop p)) := by
    have h6 := (slice_from hS.out pn.out hnc).below B2.out
    rw [← H1.out.1, ← HMM.out]
    exact h6
  have Z2 : Hid (av = none → c - p = 0) := by
    rw [← H1.out.1]
    intro h6
    unfold sfrom at h6
    split at h6
    · rename_i h7; omega
    · have h8 : a = none := by cases a with
        | none => rfl
        | some x => simp at h6
      have := hc.out h8
      omega
  have N2 : m ≤ c - p := by have h7 := HMM.out; omega
  have X2 : ∃ z, z ≤ 1024 ∧ m = z + 32 * blks z := ⟨x6, x6b, by rw [← HMM.out]; exact hl.out⟩
  have K2 : Hid (Kst w2) := hK.out.below B2.out (kst_pos hK.out)
  have Y2 : Hid (21 < w2.heap.size) := Nat.lt_of_lt_of_le (kst_pos hK.out) B2.out.size
  rw [HMM.out] at hd
  go_wp2_with (first
    | (go_at_call 90; refine (shard_ok S2 Z2 N2 X2 K2 Y2 hd).mono ?_; rintro e w3 ⟨a3, m3, c3, rfl, H3⟩
       have T3 : Hid (Stp w w3) := T2.out.below H3.out.2
       have A3 : Hid (Rng .i64 w3 w1.heap.size 0 [x0, x1, x2, x3, x4, x5, x6]) := (A2.out.below H3.out.2 A2.out.lt).rng)
    | (refine wpList_ld (k := .i64) (by rfl) 138 (.tmp 5) (by rfl) (by rfl) A3 und64 sz64 ?_)
    | (go_at_call 91; refine (stamp_n x0 x1 x2 x3 x4 x5 x6 _).mono ?_; rintro e w4 ⟨rfl, H4⟩
       have T4 : Hid (Stp w w4) := T3.out.below H4.out
       have A4 : Hid (Arr .i64 45 w4 w.heap.size Z5) := T4.out.out)
    | (refine wpList_st0 (k := .i64) (t := 45) (l := Z5) (l2 := [x1, x2, x3, x4, x5]) (by rfl) (by rfl) 45 (.tmp 2) (.tmp 38) (by rfl) (by rfl) (by rfl) A4 sz25s (by rfl) ?_))
  have FIN : Hid (Own (w4.setRow w.heap.size (cs .i64 [x1, x2, x3, x4, x5])) w.heap.size a3 m3 c3 (shK (F.drop p) (pcs (n - p))) ∧ Below w.heap.size w (w4.setRow w.heap.size (cs .i64 [x1, x2, x3, x4, x5]))) := by
    rw [HMM.out]
    refine ⟨?_, (Oth.setRow _).below T4.out.bel (Nat.le_refl _)⟩
    have h7 := T2.out.out.lt
    exact (((H3.out.1.below H4.out).block (fun q hq => setRow_other w4 w.heap.size q _ (by have := ((H3.out.1.below H4.out).ge q hq).1; omega))).base T2.out.bel.size)
  refine bodyPost_ret (res_arr3 (by rfl) (by rfl) (A4.out.setRow [x1, x2, x3, x4, x5]) und25s sz25s) rfl ?_
  exact ⟨a3, m3, c3, rfl, FIN.out⟩
end Go.Proofs.YtkdgakcmhnadfaaGreatDoor

/- Gp -/
/- The document's GoodId, InForm and Blocks. -/
namespace Go.Proofs.YtkdgakcmhnadfaaGreatDoor
open Go.ChangeShapes Go.WideShapes Go.ChangeAt Go.RowKit
set_option maxRecDepth 20000
set_option linter.unusedVariables false
set_option linter.unusedSimpArgs false
theorem okN_iff (a b c d e : Int) : okN [1, a, b, c, d, e, 0] = true ↔ (0 ≤ a ∧ a ≤ 15) ∧ (0 ≤ b ∧ b ≤ 1099511627776) ∧ (0 ≤ c ∧ c ≤ 1099511627776) ∧ (0 ≤ d ∧ d ≤ 15) ∧ (0 ≤ e ∧ e ≤ 1024) := by
  have r : List.range 7 = [0, 1, 2, 3, 4, 5, 6] := by decide
  unfold okN
  rw [r]
  simp [okAt, mostL]
def gid (a b c : Int) : Bool := decide ((0 ≤ a ∧ a ≤ 15) ∧ (0 ≤ b ∧ b ≤ 1099511627776) ∧ (0 ≤ c ∧ c ≤ 1099511627776))
theorem gid_t {a b c : Int} (h : (0 ≤ a ∧ a ≤ 15) ∧ (0 ≤ b ∧ b ≤ 1099511627776) ∧ (0 ≤ c ∧ c ≤ 1099511627776)) : gid a b c = true := by unfold gid; simpa using h
theorem gid_f {a b c : Int} (h : ¬ ((0 ≤ a ∧ a ≤ 15) ∧ (0 ≤ b ∧ b ≤ 1099511627776) ∧ (0 ≤ c ∧ c ≤ 1099511627776))) : gid a b c = false := by unfold gid; exact decide_eq_false h
set_option maxHeartbeats 2000000 in
theorem goodId_n (a b c : Int) (w : World) : Calls Tryz.prog 14 #[.agg #[.int .i64 a, .int .i64 b, .int .i64 c]] w fun e w' => e = .returned (.bool (gid a b c)) ∧ Hid (Below w.heap.size w w') := by
  have FIN : Hid (Below w.heap.size w (w.alloc (.cells #[.int .i64 a, .int .i64 b, .int .i64 c] 32))) := (Below.refl _ w).alloc (Nat.le_refl _) _
  have ff : ∀ {x : Bool}, x = false → Ending.returned (.bool false) = .returned (.bool x) := fun h => by rw [h]
  by_cases h1 : 0 ≤ a
  · by_cases h2 : a ≤ 15
    · by_cases h3 : 0 ≤ b
      · by_cases h4 : b ≤ 1099511627776
        · by_cases h5 : 0 ≤ c
          · by_cases h6 : c ≤ 1099511627776
            · go_enter Tryz.func14, Tryz.ntmps14
              go_wp2
              go_ret
              exact ⟨by rw [gid_t ⟨⟨h1, h2⟩, ⟨h3, h4⟩, h5, h6⟩]; rfl, FIN.out⟩
            · go_enter Tryz.func14, Tryz.ntmps14
              go_wp2
              go_ret
              exact ⟨by rw [gid_f (by omega)]; rfl, FIN.out⟩
          · go_enter Tryz.func14, Tryz.ntmps14
            go_wp2
            go_ret
            exact ⟨by rw [gid_f (by omega)]; rfl, FIN.out⟩
        · go_enter Tryz.func14, Tryz.ntmps14
          go_wp2
          go_ret
          exact ⟨by rw [gid_f (by omega)]; rfl, FIN.out⟩
      · go_enter Tryz.func14, Tryz.ntmps14
        go_wp2
        go_ret
        exact ⟨by rw [gid_f (by omega)]; rfl, FIN.out⟩
    · go_enter Tryz.func14, Tryz.ntmps14
      go_wp2
      go_ret
      exact ⟨by rw [gid_f (by omega)]; rfl, FIN.out⟩
  · go_enter Tryz.func14, Tryz.ntmps14
    go_wp2
    go_ret
    exact ⟨by rw [gid_f (by omega)]; rfl, FIN.out⟩
theorem ok_t {a b c d e : Int} (h : gid a b c = true) (h1 : 0 ≤ d) (h2 : d ≤ 15) (h3 : 0 ≤ e) (h4 : e ≤ 1024) : okN [1, a, b, c, d, e, 0] = true := by
  rw [okN_iff]
  unfold gid at h
  simp only [decide_eq_true_eq] at h
  exact ⟨h.1, h.2.1, h.2.2, ⟨h1, h2⟩, h3, h4⟩
theorem ok_f {a b c d e : Int} (h : ¬ (gid a b c = true ∧ 0 ≤ d ∧ d ≤ 15 ∧ 0 ≤ e ∧ e ≤ 1024)) : okN [1, a, b, c, d, e, 0] = false := by
  cases hk : okN [1, a, b, c, d, e, 0] with
  | false => rfl
  | true =>
    rw [okN_iff] at hk
    exact absurd ⟨gid_t ⟨hk.1, hk.2.1, hk.2.2.1⟩, hk.2.2.2.1.1, hk.2.2.2.1.2, hk.2.2.2.2.1, hk.2.2.2.2.2⟩ h
set_option maxHeartbeats 2000000 in
theorem refInForm_n (a b c d e : Int) (w : World) : Calls Tryz.prog 109 #[.agg #[.int .i64 a, .int .i64 b, .int .i64 c, .int .i64 d, .int .i64 e]] w fun en w' => en = .returned (.bool (okN [1, a, b, c, d, e, 0])) ∧ Hid (Below w.heap.size w w') := by
  obtain ⟨W0, HW0⟩ : ∃ W0, Hid (w.alloc (.cells #[.int .i64 a, .int .i64 b, .int .i64 c, .int .i64 d, .int .i64 e] 45) = W0) := ⟨_, rfl⟩
  have b0 : Hid (Below w.heap.size w W0) := by rw [← HW0.out]; exact (Below.refl _ w).alloc (Nat.le_refl _) _
  have q34 : W0.cell? ⟨w.heap.size, 3, none⟩ = some (.int .i64 d) ∧ W0.cell? ⟨w.heap.size, 4, none⟩ = some (.int .i64 e) := by rw [← HW0.out]; simp [go_sem]
  have z0 : w.heap.size < W0.heap.size := by rw [← HW0.out]; simp
  obtain ⟨g, HG⟩ : ∃ g, Hid (gid a b c = g) := ⟨_, rfl⟩
  obtain ⟨o, HO⟩ : ∃ o, Hid (okN [1, a, b, c, d, e, 0] = o) := ⟨_, rfl⟩
  rw [HO.out]
  have Q : Hid (∀ w1, Below W0.heap.size W0 w1 → w1.cell? ⟨w.heap.size, 3, none⟩ = some (.int .i64 d) ∧ w1.cell? ⟨w.heap.size, 4, none⟩ = some (.int .i64 e)) := fun w1 hb => ⟨(hb.cell (p := ⟨w.heap.size, 3, none⟩) z0).trans q34.1, (hb.cell (p := ⟨w.heap.size, 4, none⟩) z0).trans q34.2⟩
  clear q34 z0
  cases g with
  | false =>
    have OF : o = false := by rw [← HO.out]; exact ok_f (fun h => by rw [HG.out] at h; cases h.1)
    subst OF
    go_enter Tryz.func109, Tryz.ntmps109
    go_wp2_with (go_at_call 14; rw [HW0.out]; refine (goodId_n a b c _).mono ?_; rintro en w1 ⟨rfl, H1⟩; rw [HG.out])
    go_ret
    exact ⟨rfl, b0.out.trans (H1.out.mono b0.out.size)⟩
  | true =>
    by_cases h1 : 0 ≤ d
    · by_cases h2 : d ≤ 15
      · by_cases h3 : 0 ≤ e
        · by_cases h4 : e ≤ 1024
          · have OF : o = true := by rw [← HO.out]; exact ok_t HG.out h1 h2 h3 h4
            subst OF
            go_enter Tryz.func109, Tryz.ntmps109
            go_wp2_with (go_at_call 14; rw [HW0.out]; refine (goodId_n a b c _).mono ?_; rintro en w1 ⟨rfl, H1⟩; rw [HG.out]; obtain ⟨q3, q4⟩ := Q.out w1 H1.out)
            go_ret
            exact ⟨rfl, b0.out.trans (H1.out.mono b0.out.size)⟩
          · have OF : o = false := by rw [← HO.out]; exact ok_f (fun h => h4 h.2.2.2.2)
            subst OF
            have h4' : decide (e ≤ 1024) = false := decide_eq_false h4
            go_enter Tryz.func109, Tryz.ntmps109
            go_wp2_with (go_at_call 14; rw [HW0.out]; refine (goodId_n a b c _).mono ?_; rintro en w1 ⟨rfl, H1⟩; rw [HG.out]; obtain ⟨q3, q4⟩ := Q.out w1 H1.out)
            go_ret
            exact ⟨rfl, b0.out.trans (H1.out.mono b0.out.size)⟩
        · have OF : o = false := by rw [← HO.out]; exact ok_f (fun h => h3 h.2.2.2.1)
          subst OF
          go_enter Tryz.func109, Tryz.ntmps109
          go_wp2_with (go_at_call 14; rw [HW0.out]; refine (goodId_n a b c _).mono ?_; rintro en w1 ⟨rfl, H1⟩; rw [HG.out]; obtain ⟨q3, q4⟩ := Q.out w1 H1.out)
          go_ret
          exact ⟨rfl, b0.out.trans (H1.out.mono b0.out.size)⟩
      · have OF : o = false := by rw [← HO.out]; exact ok_f (fun h => h2 h.2.2.1)
        subst OF
        go_enter Tryz.func109, Tryz.ntmps109
        go_wp2_with (go_at_call 14; rw [HW0.out]; refine (goodId_n a b c _).mono ?_; rintro en w1 ⟨rfl, H1⟩; rw [HG.out]; obtain ⟨q3, q4⟩ := Q.out w1 H1.out)
        go_ret
        exact ⟨rfl, b0.out.trans (H1.out.mono b0.out.size)⟩
    · have OF : o = false := by rw [← HO.out]; exact ok_f (fun h => h1 h.2.1)
      subst OF
      go_enter Tryz.func109, Tryz.ntmps109
      go_wp2_with (go_at_call 14; rw [HW0.out]; refine (goodId_n a b c _).mono ?_; rintro en w1 ⟨rfl, H1⟩; rw [HG.out]; obtain ⟨q3, q4⟩ := Q.out w1 H1.out)
      go_ret
      exact ⟨rfl, b0.out.trans (H1.out.mono b0.out.size)⟩
end Go.Proofs.YtkdgakcmhnadfaaGreatDoor
