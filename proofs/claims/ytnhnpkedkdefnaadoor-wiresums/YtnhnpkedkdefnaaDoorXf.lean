/- The law WireSums walked: it returns true, and changes nothing that was there. -/
import Derived.Test.YtnhnpkedkdefnaaDoorXe
import Derived.Test.YtnhnpkedkdefnaaDoorOr
namespace Go.Proofs.YtnhnpkedkdefnaaDoor
open Go.ChangeShapes Go.WideShapes Go.ChangeAt Go.RowKit
set_option linter.unusedVariables false
set_option linter.unusedSimpArgs false
/- what the conversions give, each till it is used -/
def cvS (vs vo vw vk va : Value) (ts to_ tl : ByteArray) (L : Array Bool) (W : World) : Prop :=
  (L.getD 11 false = true ∨ (convert 27 9 vs).run Tryd.prog W = .ok (.string ts) W) ∧
  (L.getD 24 false = true ∨ ((convert 27 9 vo).run Tryd.prog W = .ok (.string to_) W ∧ (convert 27 9 vw).run Tryd.prog W = .ok (.string to_) W)) ∧
  (L.getD 35 false = true ∨ ((convert 27 9 vk).run Tryd.prog W = .ok (.string tl) W ∧ (convert 27 9 va).run Tryd.prog W = .ok (.string tl) W))
theorem getD_off {L : Array Bool} {c : Nat} (h : L.getD c true = false) : L.getD c false = false := by
  rcases Nat.lt_or_ge c L.size with h' | h'
  · simp [h'] at h ⊢; exact h
  · simp [Array.getElem?_eq_none h'] at h
section
variable {vs vo vw vk va : Value} {ts to_ tl : ByteArray} {L : Array Bool} {W : World}
theorem cvS_set {i : Nat} (h : i ≠ 11 ∧ i ≠ 24 ∧ i ≠ 35) : cvS vs vo vw vk va ts to_ tl (L.setIfInBounds i true) W ↔ cvS vs vo vw vk va ts to_ tl L W := by
  unfold cvS
  rw [getD_set_ne false h.1, getD_set_ne false h.2.1, getD_set_ne false h.2.2]
theorem cvS_7 (h : L.getD 11 true = false) (hs : cvS vs vo vw vk va ts to_ tl L W) : (convert 27 9 vs).run Tryd.prog W = .ok (.string ts) W := hs.1.resolve_left (by rw [getD_off h]; decide)
theorem cvS_24 (h : L.getD 24 true = false) (hs : cvS vs vo vw vk va ts to_ tl L W) : (convert 27 9 vo).run Tryd.prog W = .ok (.string to_) W ∧ (convert 27 9 vw).run Tryd.prog W = .ok (.string to_) W := hs.2.1.resolve_left (by rw [getD_off h]; decide)
theorem cvS_35 (h : L.getD 35 true = false) (hs : cvS vs vo vw vk va ts to_ tl L W) : (convert 27 9 vk).run Tryd.prog W = .ok (.string tl) W ∧ (convert 27 9 va).run Tryd.prog W = .ok (.string tl) W := hs.2.2.resolve_left (by rw [getD_off h]; decide)
end
section
variable {w W : World} {a : Option Addr} {n c : Nat} {l : List Nat} {gi gs Ns : Nat} {ao : Option Addr} {No co : Nat} {lo : List Nat} {aw : Option Addr} {Nw cw : Nat} {ak : Option Addr} {Nk ck : Nat}
theorem Sms.conv (h : Sms w W a n l gi gs Ns ao No co lo aw Nw cw ak Nk ck) (hm : No ≤ 140737488352256 ∧ Nw ≤ 140737488352256 ∧ Nk ≤ 140737488352256) (hns : Ns ≤ 140737488352256) :
    (convert 27 9 (.slice (some ⟨gs, 0, none⟩) Ns Ns)).run Tryd.prog W = .ok (.string (spell (sealL l))) W ∧ (convert 27 9 (.slice ao No co)).run Tryd.prog W = .ok (.string (spell lo)) W ∧ (convert 27 9 (.slice aw Nw cw)).run Tryd.prog W = .ok (.string (spell lo)) W ∧ (convert 27 9 (.slice ak Nk ck)).run Tryd.prog W = .ok (.string (spell l)) W ∧ (convert 27 9 (.slice a n c)).run Tryd.prog W = .ok (.string (spell l)) W :=
  ⟨conv_n (h.ss.sln hns), conv_n (h.so.sln hm.1), conv_n (h.sw.sln hm.2.1), conv_n (h.sk.sln hm.2.2), conv_n h.sb⟩
theorem Sms.turn1 {W' : World} (h : Sms w W a n l gi gs Ns ao No co lo aw Nw cw ak Nk ck) (S0 : Sln w a n l) (hg : W.grownBy W' (blkOf ao)) (D1 : Hid (∀ q, blkOf ao = some q → gs < q ∧ gi < q)) (D2 : Hid (∀ q, blkOf ak = some q → gs < q ∧ (∀ p, blkOf ao = some p → p < q))) :
    Below w.heap.size w W' ∧ Sln W' a n l ∧ Blk W' gi (l ++ marks) ∧ Own W' w.heap.size (some ⟨gs, 0, none⟩) Ns Ns (sealL l) ∧ Own W' w.heap.size ak Nk ck l := by
  have hge : ∀ q, blkOf ao = some q → w.heap.size ≤ q := fun q hq => (h.so.ge q hq).1
  refine ⟨h.bel.grown hg h.bel.size hge, h.sb.grown hg (old_block (W := W) S0 hge), h.bi.grown hg (fun e => ?_), h.ss.kept hg (.inr fun e => ?_), h.sk.kept hg ?_⟩
  · have := (D1.out gi e).2; omega
  · have := (D1.out gs e.symm).1; omega
  · cases hk : blkOf ak with
    | none => exact .inl rfl
    | some q => exact .inr (fun e => by have := (D2.out q hk).2 q e.symm; omega)
theorem turn2 {W' : World} (S0 : Sln w a n l) (h : Below w.heap.size w W ∧ Sln W a n l ∧ Blk W gi (l ++ marks) ∧ Own W w.heap.size (some ⟨gs, 0, none⟩) Ns Ns (sealL l) ∧ Own W w.heap.size ak Nk ck l) (hg : W.grownBy W' (blkOf (some ⟨gs, 0, none⟩))) (gs0 : Hid (w.heap.size ≤ gs)) (D3 : Hid (gi < gs)) :
    Below w.heap.size w W' ∧ Sln W' a n l ∧ Blk W' gi (l ++ marks) := by
  have hge : ∀ q, blkOf (some (⟨gs, 0, none⟩ : Addr)) = some q → w.heap.size ≤ q := fun q hq => by have h1 := gs0.out; simp [blkOf] at hq; omega
  exact ⟨h.1.grown hg h.1.size hge, h.2.1.grown hg (old_block (W := W) S0 hge), h.2.2.1.grown hg (fun e => by have h1 := D3.out; simp [blkOf] at e; omega)⟩
end
set_option maxRecDepth 20000 in
set_option maxHeartbeats 1000000 in
theorem sums_n {w : World} {a : Option Addr} {n c : Nat} {l : List Nat} {E : Nat → Addr} (S0 : Hid (Sln w a n l)) (hc : Hid (a = none → c = 0)) (hnc : n ≤ c) (hn : n ≤ 140737488351232) (hE : Hid (Sent w 18 E)) :
    Calls Tryd.prog 5 #[.slice a n c] w fun e w' => e = .returned (.bool true) ∧ Hid (Below w.heap.size w w') := by
  go_enter Tryd.func5, Tryd.ntmps5
  go_upto_region 3 with (first
    | (go_at_call 9; refine (alive_n w).mono ?_; rintro e w1 ⟨rfl, B1⟩))
  have S1 : Hid (Sln w1 a n l) := S0.out.below B1.out
  go_upto_region 4 with (first
    | (go_at_call 15; refine (bytes_n S1 hc).mono ?_; rintro e w2 ⟨gi, Ni, rfl, H2⟩))
  have B2 : Hid (Below w.heap.size w w2) := B1.out.trans (H2.out.2.2.2.mono B1.out.size)
  have gi0 : Hid (w.heap.size ≤ gi) := by rw [H2.out.2.1]; exact B1.out.size
  have hNi : Hid (Ni = n + 6) := H2.out.1
  have I2 : Hid (Blk w2 gi (l ++ marks)) := H2.out.2.2.1
  have SI2 : Hid (Sln w2 (some ⟨gi, 0, none⟩) n l) := blk_begin I2.out S0.out.len S0.out.lt S0.out.sli.2.1
  clear H2 S1 B1
  go_upto_region 5 with (first
    | (go_at_call 28; refine (seal_n SI2 (show Hid (_ → _) from by simp [Hid])).mono ?_; rintro e w3 ⟨gs, Ns, rfl, H3⟩))
  have B3 : Hid (Below w.heap.size w w3) := B2.out.trans (H3.out.2.2.2.mono B2.out.size)
  have D3 : Hid (gi < gs) := by rw [H3.out.2.1]; exact I2.out.lt
  have gs0 : Hid (w.heap.size ≤ gs) := Nat.le_trans gi0.out (Nat.le_of_lt D3.out)
  have hNsH : Hid (Ns = n + 4) := H3.out.1
  have hN4 : 4 ≤ Ns := by rw [hNsH.out]; omega
  have hns8 : Ns + 8 ≤ 140737488352256 := by rw [hNsH.out]; omega
  have hNsl : Hid (Ns = (sealL l).length) := by rw [seal_len, ← S0.out.len]; exact hNsH.out
  have O3 : Hid (Own w3 w.heap.size (some ⟨gs, 0, none⟩) Ns Ns (sealL l)) := H3.out.2.2.1.own gs0.out hNsl.out (seal_bytes S0.out.lt) (by omega)
  have I3 : Hid (Blk w3 gi (l ++ marks)) := I2.out.below H3.out.2.2.2 I2.out.lt
  have SI3 : Hid (Sln w3 (some ⟨gi, 0, none⟩) n l) := SI2.out.below H3.out.2.2.2
  have E3 : Hid (Sent w3 18 E) := hE.out.below B3.out
  have L3 : Hid (gs < w3.heap.size) := H3.out.2.2.1.lt
  clear H3 B2 I2 SI2
  obtain ⟨lo, Hlo⟩ : ∃ x, Hid ((opn l).1 = x) := ⟨_, rfl⟩
  obtain ⟨k, Hk⟩ : ∃ x, Hid ((opn l).2 = x) := ⟨_, rfl⟩
  have HK : Hid (k = 0 ∨ k = 5 ∨ k = 6) := by rw [← Hk.out]; exact opn_code l
  have loS : Hid (lo.length ≤ n) := by
    rw [← Hlo.out, S0.out.len]
    unfold opn
    split
    · simp [Hid]
    · split <;> simp [Hid]
  have NiC : n ≤ Ni := by rw [hNi.out]; omega
  go_upto_region 6 with (first
    | (go_at_call 29; refine (open_any SI3 (show Hid (_ → _) from by simp [Hid]) NiC E3 (by omega)).mono ?_; rintro e w4 ⟨ao, No, co, v, rfl, H4⟩))
  have B4 : Hid (Below w.heap.size w w4) := B3.out.trans (H4.out.2.2.mono B3.out.size)
  have HV : Hid (v = erv E k) := by rw [← Hk.out]; exact H4.out.1
  have O4 : Hid (Own w4 w3.heap.size ao No co lo) := by rw [← Hlo.out]; exact H4.out.2.1
  have O43 : Hid (Own w4 w.heap.size (some ⟨gs, 0, none⟩) Ns Ns (sealL l)) := O3.out.below H4.out.2.2
  have I4 : Hid (Blk w4 gi (l ++ marks)) := I3.out.below H4.out.2.2 I3.out.lt
  have S4 : Hid (Sln w4 a n l) := S0.out.below B4.out
  have D1 : Hid (∀ q, blkOf ao = some q → gs < q ∧ gi < q) := fun q hq => by have h1 := (O4.out.ge q hq).1; have h2 := L3.out; have h3 := D3.out; omega
  clear H4 O3 I3 SI3 E3
  go_upto_region 7 with (first
    | (go_at_call 30; refine (refopen_any S4 hc hnc).mono ?_; rintro e w5 ⟨aw, Nw, cw, kk, rfl, H5⟩))
  have B5 : Hid (Below w.heap.size w w5) := B4.out.trans (H5.out.2.2.mono B4.out.size)
  have ek : k = kk := by rw [← Hk.out]; exact H5.out.1.symm
  subst ek
  have O5 : Hid (Own w5 w4.heap.size aw Nw cw lo) := by rw [← Hlo.out]; exact H5.out.2.1
  have O54 : Hid (Own w5 w.heap.size ao No co lo) := (O4.out.base B3.out.size).below H5.out.2.2
  have O53 : Hid (Own w5 w.heap.size (some ⟨gs, 0, none⟩) Ns Ns (sealL l)) := O43.out.below H5.out.2.2
  have I5 : Hid (Blk w5 gi (l ++ marks)) := I4.out.below H5.out.2.2 I4.out.lt
  have SS5 : Hid (Sln w5 (some ⟨gs, 0, none⟩) Ns (sealL l)) := O53.out.sln (by omega)
  have OK5 : Hid (sealL ((sealL l).take (Ns - 4)) = sealL l) := by have h1 := hNsl.out; rw [h1, seal_take]; exact rfl
  have PO : Hid (∀ p, blkOf ao = some p → p < w5.heap.size) := fun p hp => (O54.out.ge p hp).2
  have L5 : Hid (gs < w5.heap.size) := (O53.out.ge gs rfl).2
  clear H5 O43 I4 S4
  go_upto_region 8 with (first
    | (go_at_call 29; refine (open_ok SS5 (show Hid (_ → _) from by simp [Hid]) (Nat.le_refl _) hN4 OK5).mono ?_; rintro e w6 ⟨ak, Nk, ck, rfl, H6⟩))
  have B6 : Hid (Below w.heap.size w w6) := B5.out.trans (H6.out.2.2.mono B5.out.size)
  have O6 : Hid (Own w6 w5.heap.size ak Nk ck l) := by have h1 := H6.out.2.1; rw [hNsl.out, seal_take] at h1; exact h1
  have D2 : Hid (∀ q, blkOf ak = some q → gs < q ∧ (∀ p, blkOf ao = some p → p < q)) := fun q hq => by have h1 := (O6.out.ge q hq).1; have h2 := L5.out; exact ⟨by omega, fun p hp => by have h3 := PO.out p hp; omega⟩
  have F6 : Hid (Sms w w6 a n l gi gs Ns ao No co lo aw Nw cw ak Nk ck) := ⟨B6.out, S0.out.below B6.out, I5.out.below H6.out.2.2 I5.out.lt, O53.out.below H6.out.2.2, O54.out.below H6.out.2.2, (O5.out.base B4.out.size).below H6.out.2.2, O6.out.base B5.out.size⟩
  have hm : No ≤ 140737488352256 ∧ Nw ≤ 140737488352256 ∧ Nk ≤ 140737488352256 := by
    have h1 := F6.out.so.len
    have h2 := F6.out.sw.len
    have h3 := F6.out.sk.len
    have h4 := loS.out
    have h5 := S0.out.len
    exact ⟨by omega, by omega, by omega⟩
  have hNo : No + 8 ≤ 140737488352256 := by
    have h1 := F6.out.so.len
    have h4 := loS.out
    omega
  have hns : Ns ≤ 140737488352256 := by omega
  have hNk : Nk ≤ 140737488352256 := hm.2.2
  have hne1 : Hid (∀ q off, sealL l ≠ [] → some (⟨gs, 0, none⟩ : Addr) = some ⟨q, off, none⟩ → blkOf ao ≠ some q) := by
    intro q off _ h1 h2
    simp only [Option.some.injEq, Addr.mk.injEq, and_true] at h1
    have h3 := (D1.out q h2).1
    omega
  have hne2 : Hid (∀ q off, l ≠ [] → ak = some ⟨q, off, none⟩ → blkOf (some (⟨gs, 0, none⟩ : Addr)) ≠ some q) := by
    intro q off _ h1 h2
    have h3 := (D2.out q (by rw [h1]; rfl)).1
    simp [blkOf] at h2
    omega
  clear H6 O53 O54 O5 I5 SS5 OK5 PO L5 O6 B5 B4 B3 hNsl L3 O4 loS Hlo Hk NiC B6
  obtain ⟨W, HW⟩ : ∃ W, Hid (w6.drew = W) := ⟨_, rfl⟩
  have F : Hid (Sms w W a n l gi gs Ns ao No co lo aw Nw cw ak Nk ck) := by rw [← HW.out]; exact F6.out.below (below_drewN (Below.refl _ _) 1)
  have CV := F.out.conv (c := c) hm hns
  clear F6
  refine wp_region_till (S := cvS (.slice (some ⟨gs, 0, none⟩) Ns Ns) (.slice ao No co) (.slice aw Nw cw) (.slice ak Nk ck) (.slice a n c) (spell (sealL l)) (spell lo) (spell l)) (by kernel_rfl) ?_ (fun hS => ?_)
  · rw [HW.out]; exact ⟨.inr CV.1, .inr ⟨CV.2.1, CV.2.2.1⟩, .inr ⟨CV.2.2.2.1, CV.2.2.2.2⟩⟩
  rw [HW.out] at hS ⊢
  clear HW
  refine till_take (i := 0) (v := .slice (some ⟨gi, 0, none⟩) n Ni) rfl (by kernel_rfl) (by kernel_rfl) (by kernel_rfl) (fun _ _ _ h => h) (fun L w => cvS_set (by decide)) (Or.inl ⟨by rfl, fun w => by go_simp⟩) hS (fun hSb => ?_)
  simp only [List.getElem_toArray, List.getElem_cons_zero, List.getElem_cons_succ, Act.put, List.setIfInBounds_toArray, List.set_cons_zero, List.set_cons_succ]
  clear hS
  refine till_take (i := 2) (v := .slice a n c) rfl (by kernel_rfl) (by kernel_rfl) (by kernel_rfl) (fun _ _ _ h => h) (fun L w => cvS_set (by decide)) (Or.inl ⟨by rfl, fun w => by go_simp⟩) hSb (fun hS => ?_)
  simp only [List.getElem_toArray, List.getElem_cons_zero, List.getElem_cons_succ, Act.put, List.setIfInBounds_toArray, List.set_cons_zero, List.set_cons_succ]
  clear hSb
  refine till_one (i := 1) (by kernel_rfl) rfl (fun K hK => ?_)
  simp only [List.getElem_toArray, List.getElem_cons_zero, List.getElem_cons_succ]
  rw [if_pos (by rfl)]
  go_simp
  go_wp2_with (go_at_call 31; refine (sum_n (show Hid (Sln W (some ⟨gi, 0, none⟩) n l) from blk_begin F.out.bi S0.out.len S0.out.lt S0.out.sli.2.1)).mono ?_; rintro e w9 ⟨rfl, h9⟩; rw [h9]; clear h9)
  refine hK.out _ _ (⟨.inr CV.1, .inr ⟨CV.2.1, CV.2.2.1⟩, .inr ⟨CV.2.2.2.1, CV.2.2.2.2⟩⟩) (fun hSb => ?_)
  clear hK K
  try simp only [List.getElem_toArray, List.getElem_cons_zero, List.getElem_cons_succ, Act.put, List.setIfInBounds_toArray, List.set_cons_zero, List.set_cons_succ]
  clear hS
  refine till_one (i := 3) (by kernel_rfl) rfl (fun K hK => ?_)
  simp only [List.getElem_toArray, List.getElem_cons_zero, List.getElem_cons_succ]
  rw [if_pos (by rfl)]
  go_simp
  go_wp2_with (go_at_call 32; refine (refsum_n (show Hid (Sln W a n l) from F.out.sb)).mono ?_; rintro e w9 ⟨rfl, h9⟩; rw [h9]; clear h9)
  refine hK.out _ _ (⟨.inr CV.1, .inr ⟨CV.2.1, CV.2.2.1⟩, .inr ⟨CV.2.2.2.1, CV.2.2.2.2⟩⟩) (fun hS => ?_)
  clear hK K
  try simp only [List.getElem_toArray, List.getElem_cons_zero, List.getElem_cons_succ, Act.put, List.setIfInBounds_toArray, List.set_cons_zero, List.set_cons_succ]
  clear hSb
  refine till_take (i := 4) (v := .bool true) rfl (by kernel_rfl) (by kernel_rfl) (by kernel_rfl) (fun _ _ _ h => h) (fun L w => cvS_set (by decide)) (Or.inl ⟨by rfl, fun w => by go_simp⟩) hS (fun hSb => ?_)
  simp only [List.getElem_toArray, List.getElem_cons_zero, List.getElem_cons_succ, Act.put, List.setIfInBounds_toArray, List.set_cons_zero, List.set_cons_succ]
  clear hS
  refine till_take (i := 5) (v := .bool true) rfl (by kernel_rfl) (by kernel_rfl) (by kernel_rfl) (fun _ _ _ h => h) (fun L w => cvS_set (by decide)) (Or.inl ⟨by rfl, fun w => by go_simp⟩) hSb (fun hS => ?_)
  simp only [List.getElem_toArray, List.getElem_cons_zero, List.getElem_cons_succ, Act.put, List.setIfInBounds_toArray, List.set_cons_zero, List.set_cons_succ]
  clear hSb
  refine till_take (i := 6) (v := .slice (some ⟨gs, 0, none⟩) Ns Ns) rfl (by kernel_rfl) (by kernel_rfl) (by kernel_rfl) (fun _ _ _ h => h) (fun L w => cvS_set (by decide)) (Or.inl ⟨by rfl, fun w => by go_simp⟩) hS (fun hSb => ?_)
  simp only [List.getElem_toArray, List.getElem_cons_zero, List.getElem_cons_succ, Act.put, List.setIfInBounds_toArray, List.set_cons_zero, List.set_cons_succ]
  clear hS
  refine till_read (i := 7) (c := 11) (v := .string (spell (sealL l))) rfl rfl (by kernel_rfl) (by kernel_rfl) (by kernel_rfl) (by kernel_rfl) (by kernel_rfl) (fun _ _ _ h => h) (fun L w => cvS_set (by decide)) (fun L w h1 h2 => cvS_7 h1 h2) (Or.inl ⟨by rfl, fun w hSw => by (try dsimp only at hSw); go_simp⟩) hSb (fun hS => ?_)
  simp only [List.getElem_toArray, List.getElem_cons_zero, List.getElem_cons_succ, Act.put, List.setIfInBounds_toArray, List.set_cons_zero, List.set_cons_succ]
  clear hSb
  refine till_take (i := 8) (v := .slice a n c) rfl (by kernel_rfl) (by kernel_rfl) (by kernel_rfl) (fun _ _ _ h => h) (fun L w => cvS_set (by decide)) (Or.inl ⟨by rfl, fun w => by go_simp⟩) hS (fun hSb => ?_)
  simp only [List.getElem_toArray, List.getElem_cons_zero, List.getElem_cons_succ, Act.put, List.setIfInBounds_toArray, List.set_cons_zero, List.set_cons_succ]
  clear hS
  refine till_one (i := 9) (by kernel_rfl) rfl (fun K hK => ?_)
  simp only [List.getElem_toArray, List.getElem_cons_zero, List.getElem_cons_succ]
  rw [if_pos (by rfl)]
  go_simp
  go_wp2_with (go_at_call 33; refine (refseal_n (show Hid (Sln W a n l) from F.out.sb) hc (by omega)).mono ?_; rintro e W1 ⟨a9, N9, c9, rfl, h9⟩)
  have F1 : Hid (Sms w W1 a n l gi gs Ns ao No co lo aw Nw cw ak Nk ck) := F.out.below h9.out.2.2
  have CR := conv_n (k := c9) (show Hid (Sln W1 a9 N9 (sealL l)) from h9.out.2.1.sln (by have := h9.out.1; omega))
  clear CV F
  have CV := F1.out.conv (c := c) hm hns
  clear h9
  refine hK.out _ _ (⟨.inr CV.1, .inr ⟨CV.2.1, CV.2.2.1⟩, .inr ⟨CV.2.2.2.1, CV.2.2.2.2⟩⟩) (fun hS => ?_)
  clear hK K
  try simp only [List.getElem_toArray, List.getElem_cons_zero, List.getElem_cons_succ, Act.put, List.setIfInBounds_toArray, List.set_cons_zero, List.set_cons_succ]
  clear hSb
  refine till_one (i := 10) (by kernel_rfl) rfl (fun K hK => ?_)
  simp only [List.getElem_toArray, List.getElem_cons_zero, List.getElem_cons_succ]
  rw [if_pos (by rfl)]
  go_simp
  refine hK.out _ _ (⟨.inr CV.1, .inr ⟨CV.2.1, CV.2.2.1⟩, .inr ⟨CV.2.2.2.1, CV.2.2.2.2⟩⟩) (fun hSb => ?_)
  clear hK K
  try simp only [List.getElem_toArray, List.getElem_cons_zero, List.getElem_cons_succ, Act.put, List.setIfInBounds_toArray, List.set_cons_zero, List.set_cons_succ]
  clear hS
  refine till_one (i := 11) (by kernel_rfl) rfl (fun K hK => ?_)
  simp only [List.getElem_toArray, List.getElem_cons_zero, List.getElem_cons_succ]
  rw [if_pos (by rfl)]
  go_simp
  refine hK.out _ _ (⟨.inl (by kernel_rfl), .inr ⟨CV.2.1, CV.2.2.1⟩, .inr ⟨CV.2.2.2.1, CV.2.2.2.2⟩⟩) (fun hS => ?_)
  clear hK K
  try simp only [List.getElem_toArray, List.getElem_cons_zero, List.getElem_cons_succ, Act.put, List.setIfInBounds_toArray, List.set_cons_zero, List.set_cons_succ]
  clear hSb
  refine till_take (i := 12) (v := .bool true) rfl (by kernel_rfl) (by kernel_rfl) (by kernel_rfl) (fun _ _ _ h => h) (fun L w => cvS_set (by decide)) (Or.inl ⟨by rfl, fun w => by go_simp⟩) hS (fun hSb => ?_)
  simp only [List.getElem_toArray, List.getElem_cons_zero, List.getElem_cons_succ, Act.put, List.setIfInBounds_toArray, List.set_cons_zero, List.set_cons_succ]
  clear hS
  refine till_take (i := 13) (v := .bool true) rfl (by kernel_rfl) (by kernel_rfl) (by kernel_rfl) (fun _ _ _ h => h) (fun L w => cvS_set (by decide)) (Or.inl ⟨by rfl, fun w => by go_simp⟩) hSb (fun hS => ?_)
  simp only [List.getElem_toArray, List.getElem_cons_zero, List.getElem_cons_succ, Act.put, List.setIfInBounds_toArray, List.set_cons_zero, List.set_cons_succ]
  clear hSb
  refine till_take (i := 14) (v := v) rfl (by kernel_rfl) (by kernel_rfl) (by kernel_rfl) (fun _ _ _ h => h) (fun L w => cvS_set (by decide)) (Or.inl ⟨by rfl, fun w => by go_simp⟩) hS (fun hSb => ?_)
  simp only [List.getElem_toArray, List.getElem_cons_zero, List.getElem_cons_succ, Act.put, List.setIfInBounds_toArray, List.set_cons_zero, List.set_cons_succ]
  clear hS
  refine till_take (i := 16) (v := .int .i64 (k : Int)) rfl (by kernel_rfl) (by kernel_rfl) (by kernel_rfl) (fun _ _ _ h => h) (fun L w => cvS_set (by decide)) (Or.inl ⟨by rfl, fun w => by go_simp⟩) hSb (fun hS => ?_)
  simp only [List.getElem_toArray, List.getElem_cons_zero, List.getElem_cons_succ, Act.put, List.setIfInBounds_toArray, List.set_cons_zero, List.set_cons_succ]
  clear hSb
  refine till_one (i := 15) (by kernel_rfl) rfl (fun K hK => ?_)
  simp only [List.getElem_toArray, List.getElem_cons_zero, List.getElem_cons_succ]
  rw [if_pos (by rfl)]
  go_simp
  go_wp2_with (go_at_call 22; refine (bnum_any HV HK (show Hid (Sent W1 18 E) from hE.out.below F1.out.bel)).mono ?_; rintro e W2 ⟨rfl, h9⟩)
  have F2 : Hid (Sms w W2 a n l gi gs Ns ao No co lo aw Nw cw ak Nk ck) := F1.out.below h9.out
  clear CV F1
  have CV := F2.out.conv (c := c) hm hns
  clear h9
  refine hK.out _ _ (⟨.inl (by kernel_rfl), .inr ⟨CV.2.1, CV.2.2.1⟩, .inr ⟨CV.2.2.2.1, CV.2.2.2.2⟩⟩) (fun hSb => ?_)
  clear hK K
  try simp only [List.getElem_toArray, List.getElem_cons_zero, List.getElem_cons_succ, Act.put, List.setIfInBounds_toArray, List.set_cons_zero, List.set_cons_succ]
  clear hS
  refine till_take (i := 17) (v := .bool true) rfl (by kernel_rfl) (by kernel_rfl) (by kernel_rfl) (fun _ _ _ h => h) (fun L w => cvS_set (by decide)) (Or.inl ⟨by rfl, fun w => by go_simp⟩) hSb (fun hS => ?_)
  simp only [List.getElem_toArray, List.getElem_cons_zero, List.getElem_cons_succ, Act.put, List.setIfInBounds_toArray, List.set_cons_zero, List.set_cons_succ]
  clear hSb
  refine till_take (i := 18) (v := .bool true) rfl (by kernel_rfl) (by kernel_rfl) (by kernel_rfl) (fun _ _ _ h => h) (fun L w => cvS_set (by decide)) (Or.inl ⟨by rfl, fun w => by go_simp⟩) hS (fun hSb => ?_)
  simp only [List.getElem_toArray, List.getElem_cons_zero, List.getElem_cons_succ, Act.put, List.setIfInBounds_toArray, List.set_cons_zero, List.set_cons_succ]
  clear hS
  refine till_take (i := 19) (v := .bool true) rfl (by kernel_rfl) (by kernel_rfl) (by kernel_rfl) (fun _ _ _ h => h) (fun L w => cvS_set (by decide)) (Or.inl ⟨by rfl, fun w => by go_simp⟩) hSb (fun hS => ?_)
  simp only [List.getElem_toArray, List.getElem_cons_zero, List.getElem_cons_succ, Act.put, List.setIfInBounds_toArray, List.set_cons_zero, List.set_cons_succ]
  clear hSb
  refine till_take (i := 20) (v := .slice ao No co) rfl (by kernel_rfl) (by kernel_rfl) (by kernel_rfl) (fun _ _ _ h => h) (fun L w => cvS_set (by decide)) (Or.inl ⟨by rfl, fun w => by go_simp⟩) hS (fun hSb => ?_)
  simp only [List.getElem_toArray, List.getElem_cons_zero, List.getElem_cons_succ, Act.put, List.setIfInBounds_toArray, List.set_cons_zero, List.set_cons_succ]
  clear hS
  refine till_read (i := 21) (c := 24) (v := .string (spell lo)) rfl rfl (by kernel_rfl) (by kernel_rfl) (by kernel_rfl) (by kernel_rfl) (by kernel_rfl) (fun _ _ _ h => h) (fun L w => cvS_set (by decide)) (fun L w h1 h2 => (cvS_24 h1 h2).1) (Or.inl ⟨by rfl, fun w hSw => by (try dsimp only at hSw); go_simp⟩) hSb (fun hS => ?_)
  simp only [List.getElem_toArray, List.getElem_cons_zero, List.getElem_cons_succ, Act.put, List.setIfInBounds_toArray, List.set_cons_zero, List.set_cons_succ]
  clear hSb
  refine till_take (i := 22) (v := .slice aw Nw cw) rfl (by kernel_rfl) (by kernel_rfl) (by kernel_rfl) (fun _ _ _ h => h) (fun L w => cvS_set (by decide)) (Or.inl ⟨by rfl, fun w => by go_simp⟩) hS (fun hSb => ?_)
  simp only [List.getElem_toArray, List.getElem_cons_zero, List.getElem_cons_succ, Act.put, List.setIfInBounds_toArray, List.set_cons_zero, List.set_cons_succ]
  clear hS
  refine till_read (i := 23) (c := 24) (v := .string (spell lo)) rfl rfl (by kernel_rfl) (by kernel_rfl) (by kernel_rfl) (by kernel_rfl) (by kernel_rfl) (fun _ _ _ h => h) (fun L w => cvS_set (by decide)) (fun L w h1 h2 => (cvS_24 h1 h2).2) (Or.inl ⟨by rfl, fun w hSw => by (try dsimp only at hSw); go_simp⟩) hSb (fun hS => ?_)
  simp only [List.getElem_toArray, List.getElem_cons_zero, List.getElem_cons_succ, Act.put, List.setIfInBounds_toArray, List.set_cons_zero, List.set_cons_succ]
  clear hSb
  refine till_one (i := 24) (by kernel_rfl) rfl (fun K hK => ?_)
  simp only [List.getElem_toArray, List.getElem_cons_zero, List.getElem_cons_succ]
  rw [if_pos (by rfl)]
  go_simp
  refine hK.out _ _ (⟨.inl (by kernel_rfl), .inl (by kernel_rfl), .inr ⟨CV.2.2.2.1, CV.2.2.2.2⟩⟩) (fun hSb => ?_)
  clear hK K
  try simp only [List.getElem_toArray, List.getElem_cons_zero, List.getElem_cons_succ, Act.put, List.setIfInBounds_toArray, List.set_cons_zero, List.set_cons_succ]
  clear hS
  refine till_take (i := 25) (v := .bool true) rfl (by kernel_rfl) (by kernel_rfl) (by kernel_rfl) (fun _ _ _ h => h) (fun L w => cvS_set (by decide)) (Or.inl ⟨by rfl, fun w => by go_simp⟩) hSb (fun hS => ?_)
  simp only [List.getElem_toArray, List.getElem_cons_zero, List.getElem_cons_succ, Act.put, List.setIfInBounds_toArray, List.set_cons_zero, List.set_cons_succ]
  clear hSb
  refine till_take (i := 26) (v := .bool true) rfl (by kernel_rfl) (by kernel_rfl) (by kernel_rfl) (fun _ _ _ h => h) (fun L w => cvS_set (by decide)) (Or.inl ⟨by rfl, fun w => by go_simp⟩) hS (fun hSb => ?_)
  simp only [List.getElem_toArray, List.getElem_cons_zero, List.getElem_cons_succ, Act.put, List.setIfInBounds_toArray, List.set_cons_zero, List.set_cons_succ]
  clear hS
  refine till_take (i := 27) (v := .nilIface) rfl (by kernel_rfl) (by kernel_rfl) (by kernel_rfl) (fun _ _ _ h => h) (fun L w => cvS_set (by decide)) (Or.inl ⟨by rfl, fun w => by go_simp⟩) hSb (fun hS => ?_)
  simp only [List.getElem_toArray, List.getElem_cons_zero, List.getElem_cons_succ, Act.put, List.setIfInBounds_toArray, List.set_cons_zero, List.set_cons_succ]
  clear hSb
  refine till_take (i := 28) (v := .bool true) rfl (by kernel_rfl) (by kernel_rfl) (by kernel_rfl) (fun _ _ _ h => h) (fun L w => cvS_set (by decide)) (Or.inl ⟨by rfl, fun w => by go_simp⟩) hS (fun hSb => ?_)
  simp only [List.getElem_toArray, List.getElem_cons_zero, List.getElem_cons_succ, Act.put, List.setIfInBounds_toArray, List.set_cons_zero, List.set_cons_succ]
  clear hS
  refine till_take (i := 29) (v := .bool true) rfl (by kernel_rfl) (by kernel_rfl) (by kernel_rfl) (fun _ _ _ h => h) (fun L w => cvS_set (by decide)) (Or.inl ⟨by rfl, fun w => by go_simp⟩) hSb (fun hS => ?_)
  simp only [List.getElem_toArray, List.getElem_cons_zero, List.getElem_cons_succ, Act.put, List.setIfInBounds_toArray, List.set_cons_zero, List.set_cons_succ]
  clear hSb
  refine till_take (i := 30) (v := .bool true) rfl (by kernel_rfl) (by kernel_rfl) (by kernel_rfl) (fun _ _ _ h => h) (fun L w => cvS_set (by decide)) (Or.inl ⟨by rfl, fun w => by go_simp⟩) hS (fun hSb => ?_)
  simp only [List.getElem_toArray, List.getElem_cons_zero, List.getElem_cons_succ, Act.put, List.setIfInBounds_toArray, List.set_cons_zero, List.set_cons_succ]
  clear hS
  refine till_take (i := 31) (v := .slice ak Nk ck) rfl (by kernel_rfl) (by kernel_rfl) (by kernel_rfl) (fun _ _ _ h => h) (fun L w => cvS_set (by decide)) (Or.inl ⟨by rfl, fun w => by go_simp⟩) hSb (fun hS => ?_)
  simp only [List.getElem_toArray, List.getElem_cons_zero, List.getElem_cons_succ, Act.put, List.setIfInBounds_toArray, List.set_cons_zero, List.set_cons_succ]
  clear hSb
  refine till_read (i := 32) (c := 35) (v := .string (spell l)) rfl rfl (by kernel_rfl) (by kernel_rfl) (by kernel_rfl) (by kernel_rfl) (by kernel_rfl) (fun _ _ _ h => h) (fun L w => cvS_set (by decide)) (fun L w h1 h2 => (cvS_35 h1 h2).1) (Or.inl ⟨by rfl, fun w hSw => by (try dsimp only at hSw); go_simp⟩) hS (fun hSb => ?_)
  simp only [List.getElem_toArray, List.getElem_cons_zero, List.getElem_cons_succ, Act.put, List.setIfInBounds_toArray, List.set_cons_zero, List.set_cons_succ]
  clear hS
  refine till_take (i := 33) (v := .slice a n c) rfl (by kernel_rfl) (by kernel_rfl) (by kernel_rfl) (fun _ _ _ h => h) (fun L w => cvS_set (by decide)) (Or.inl ⟨by rfl, fun w => by go_simp⟩) hSb (fun hS => ?_)
  simp only [List.getElem_toArray, List.getElem_cons_zero, List.getElem_cons_succ, Act.put, List.setIfInBounds_toArray, List.set_cons_zero, List.set_cons_succ]
  clear hSb
  refine till_read (i := 34) (c := 35) (v := .string (spell l)) rfl rfl (by kernel_rfl) (by kernel_rfl) (by kernel_rfl) (by kernel_rfl) (by kernel_rfl) (fun _ _ _ h => h) (fun L w => cvS_set (by decide)) (fun L w h1 h2 => (cvS_35 h1 h2).2) (Or.inl ⟨by rfl, fun w hSw => by (try dsimp only at hSw); go_simp⟩) hS (fun hSb => ?_)
  simp only [List.getElem_toArray, List.getElem_cons_zero, List.getElem_cons_succ, Act.put, List.setIfInBounds_toArray, List.set_cons_zero, List.set_cons_succ]
  clear hS
  refine till_one (i := 35) (by kernel_rfl) rfl (fun K hK => ?_)
  simp only [List.getElem_toArray, List.getElem_cons_zero, List.getElem_cons_succ]
  rw [if_pos (by rfl)]
  go_simp
  refine hK.out _ _ (⟨.inl (by kernel_rfl), .inl (by kernel_rfl), .inl (by kernel_rfl)⟩) (fun hS => ?_)
  clear hK K
  try simp only [List.getElem_toArray, List.getElem_cons_zero, List.getElem_cons_succ, Act.put, List.setIfInBounds_toArray, List.set_cons_zero, List.set_cons_succ]
  clear hSb
  refine till_take (i := 36) (v := .bool true) rfl (by kernel_rfl) (by kernel_rfl) (by kernel_rfl) (fun _ _ _ h => h) (fun L w => cvS_set (by decide)) (Or.inl ⟨by rfl, fun w => by go_simp⟩) hS (fun hSb => ?_)
  simp only [List.getElem_toArray, List.getElem_cons_zero, List.getElem_cons_succ, Act.put, List.setIfInBounds_toArray, List.set_cons_zero, List.set_cons_succ]
  clear hS
  refine till_take (i := 37) (v := .bool true) rfl (by kernel_rfl) (by kernel_rfl) (by kernel_rfl) (fun _ _ _ h => h) (fun L w => cvS_set (by decide)) (Or.inl ⟨by rfl, fun w => by go_simp⟩) hSb (fun hS => ?_)
  simp only [List.getElem_toArray, List.getElem_cons_zero, List.getElem_cons_succ, Act.put, List.setIfInBounds_toArray, List.set_cons_zero, List.set_cons_succ]
  clear hSb
  refine till_take (i := 38) (v := .slice (some ⟨gs, 0, none⟩) Ns Ns) rfl (by kernel_rfl) (by kernel_rfl) (by kernel_rfl) (fun _ _ _ h => h) (fun L w => cvS_set (by decide)) (Or.inl ⟨by rfl, fun w => by go_simp⟩) hS (fun hSb => ?_)
  simp only [List.getElem_toArray, List.getElem_cons_zero, List.getElem_cons_succ, Act.put, List.setIfInBounds_toArray, List.set_cons_zero, List.set_cons_succ]
  clear hS
  refine till_take (i := 39) (v := .slice ao No co) rfl (by kernel_rfl) (by kernel_rfl) (by kernel_rfl) (fun _ _ _ h => h) (fun L w => cvS_set (by decide)) (Or.inl ⟨by rfl, fun w => by go_simp⟩) hSb (fun hS => ?_)
  simp only [List.getElem_toArray, List.getElem_cons_zero, List.getElem_cons_succ, Act.put, List.setIfInBounds_toArray, List.set_cons_zero, List.set_cons_succ]
  clear hSb
  refine till_one (i := 40) (by kernel_rfl) rfl (fun K hK => ?_)
  simp only [List.getElem_toArray, List.getElem_cons_zero, List.getElem_cons_succ]
  rw [if_pos (by rfl)]
  go_simp
  go_wp2_with (go_at_call 34; refine (apart_own (show Hid (Sln W2 (some ⟨gs, 0, none⟩) Ns (sealL l)) from F2.out.ss.sln (by omega)) (show Hid (Own W2 w.heap.size ao No co lo) from F2.out.so) (show Hid (w.heap.size ≤ W2.heap.size) from F2.out.bel.size) hNo hne1).mono ?_; rintro e W3 ⟨rfl, h9⟩)
  have F3 : Hid (Below w.heap.size w W3 ∧ Sln W3 a n l ∧ Blk W3 gi (l ++ marks) ∧ Own W3 w.heap.size (some ⟨gs, 0, none⟩) Ns Ns (sealL l) ∧ Own W3 w.heap.size ak Nk ck l) := F2.out.turn1 S0.out h9.out D1 D2
  clear CV F2 h9
  refine hK.out _ _ (⟨.inl (by kernel_rfl), .inl (by kernel_rfl), .inl (by kernel_rfl)⟩) (fun hSb => ?_)
  clear hK K
  try simp only [List.getElem_toArray, List.getElem_cons_zero, List.getElem_cons_succ, Act.put, List.setIfInBounds_toArray, List.set_cons_zero, List.set_cons_succ]
  clear hS
  refine till_take (i := 41) (v := .bool true) rfl (by kernel_rfl) (by kernel_rfl) (by kernel_rfl) (fun _ _ _ h => h) (fun L w => cvS_set (by decide)) (Or.inl ⟨by rfl, fun w => by go_simp⟩) hSb (fun hS => ?_)
  simp only [List.getElem_toArray, List.getElem_cons_zero, List.getElem_cons_succ, Act.put, List.setIfInBounds_toArray, List.set_cons_zero, List.set_cons_succ]
  clear hSb
  refine till_take (i := 42) (v := .bool true) rfl (by kernel_rfl) (by kernel_rfl) (by kernel_rfl) (fun _ _ _ h => h) (fun L w => cvS_set (by decide)) (Or.inl ⟨by rfl, fun w => by go_simp⟩) hS (fun hSb => ?_)
  simp only [List.getElem_toArray, List.getElem_cons_zero, List.getElem_cons_succ, Act.put, List.setIfInBounds_toArray, List.set_cons_zero, List.set_cons_succ]
  clear hS
  refine till_take (i := 43) (v := .slice ak Nk ck) rfl (by kernel_rfl) (by kernel_rfl) (by kernel_rfl) (fun _ _ _ h => h) (fun L w => cvS_set (by decide)) (Or.inl ⟨by rfl, fun w => by go_simp⟩) hSb (fun hS => ?_)
  simp only [List.getElem_toArray, List.getElem_cons_zero, List.getElem_cons_succ, Act.put, List.setIfInBounds_toArray, List.set_cons_zero, List.set_cons_succ]
  clear hSb
  refine till_take (i := 44) (v := .slice (some ⟨gs, 0, none⟩) Ns Ns) rfl (by kernel_rfl) (by kernel_rfl) (by kernel_rfl) (fun _ _ _ h => h) (fun L w => cvS_set (by decide)) (Or.inl ⟨by rfl, fun w => by go_simp⟩) hS (fun hSb => ?_)
  simp only [List.getElem_toArray, List.getElem_cons_zero, List.getElem_cons_succ, Act.put, List.setIfInBounds_toArray, List.set_cons_zero, List.set_cons_succ]
  clear hS
  refine till_one (i := 45) (by kernel_rfl) rfl (fun K hK => ?_)
  simp only [List.getElem_toArray, List.getElem_cons_zero, List.getElem_cons_succ]
  rw [if_pos (by rfl)]
  go_simp
  go_wp2_with (go_at_call 34; refine (apart_own (show Hid (Sln W3 ak Nk l) from F3.out.2.2.2.2.sln (by omega)) (show Hid (Own W3 w.heap.size (some ⟨gs, 0, none⟩) Ns Ns (sealL l)) from F3.out.2.2.2.1) (show Hid (w.heap.size ≤ W3.heap.size) from F3.out.1.size) (by omega) hne2).mono ?_; rintro e W4 ⟨rfl, h9⟩)
  have F4 : Hid (Below w.heap.size w W4 ∧ Sln W4 a n l ∧ Blk W4 gi (l ++ marks)) := turn2 S0.out F3.out h9.out gs0 D3
  clear F3 h9
  refine hK.out _ _ (⟨.inl (by kernel_rfl), .inl (by kernel_rfl), .inl (by kernel_rfl)⟩) (fun hS => ?_)
  clear hK K
  try simp only [List.getElem_toArray, List.getElem_cons_zero, List.getElem_cons_succ, Act.put, List.setIfInBounds_toArray, List.set_cons_zero, List.set_cons_succ]
  clear hSb
  refine till_take (i := 46) (v := .bool true) rfl (by kernel_rfl) (by kernel_rfl) (by kernel_rfl) (fun _ _ _ h => h) (fun L w => cvS_set (by decide)) (Or.inl ⟨by rfl, fun w => by go_simp⟩) hS (fun hSb => ?_)
  simp only [List.getElem_toArray, List.getElem_cons_zero, List.getElem_cons_succ, Act.put, List.setIfInBounds_toArray, List.set_cons_zero, List.set_cons_succ]
  clear hS
  refine till_take (i := 47) (v := .bool true) rfl (by kernel_rfl) (by kernel_rfl) (by kernel_rfl) (fun _ _ _ h => h) (fun L w => cvS_set (by decide)) (Or.inl ⟨by rfl, fun w => by go_simp⟩) hSb (fun hS => ?_)
  simp only [List.getElem_toArray, List.getElem_cons_zero, List.getElem_cons_succ, Act.put, List.setIfInBounds_toArray, List.set_cons_zero, List.set_cons_succ]
  clear hSb
  refine till_take (i := 48) (v := .slice (some ⟨gi, 0, none⟩) n Ni) rfl (by kernel_rfl) (by kernel_rfl) (by kernel_rfl) (fun _ _ _ h => h) (fun L w => cvS_set (by decide)) (Or.inl ⟨by rfl, fun w => by go_simp⟩) hS (fun hSb => ?_)
  simp only [List.getElem_toArray, List.getElem_cons_zero, List.getElem_cons_succ, Act.put, List.setIfInBounds_toArray, List.set_cons_zero, List.set_cons_succ]
  clear hS
  refine till_take (i := 49) (v := .slice a n c) rfl (by kernel_rfl) (by kernel_rfl) (by kernel_rfl) (fun _ _ _ h => h) (fun L w => cvS_set (by decide)) (Or.inl ⟨by rfl, fun w => by go_simp⟩) hSb (fun hS => ?_)
  simp only [List.getElem_toArray, List.getElem_cons_zero, List.getElem_cons_succ, Act.put, List.setIfInBounds_toArray, List.set_cons_zero, List.set_cons_succ]
  clear hSb
  refine till_one (i := 50) (by kernel_rfl) rfl (fun K hK => ?_)
  simp only [List.getElem_toArray, List.getElem_cons_zero, List.getElem_cons_succ]
  rw [if_pos (by rfl)]
  go_simp
  go_wp2_with (go_at_call 17; refine (kept_n (show Hid (Blk W4 gi (l ++ marks)) from F4.out.2.2) hNi (show Hid (Sln W4 a n l) from F4.out.2.1)).mono ?_; rintro e W5 ⟨rfl, h9⟩)
  have F5 : Hid (Below w.heap.size w W5) := by obtain ⟨j, hj⟩ := h9.out; rw [hj]; exact below_drewN F4.out.1 j
  clear h9
  refine hK.out _ _ (⟨.inl (by kernel_rfl), .inl (by kernel_rfl), .inl (by kernel_rfl)⟩) (fun hSb => ?_)
  clear hK K
  try simp only [List.getElem_toArray, List.getElem_cons_zero, List.getElem_cons_succ, Act.put, List.setIfInBounds_toArray, List.set_cons_zero, List.set_cons_succ]
  clear hS
  refine till_take (i := 51) (v := .bool true) rfl (by kernel_rfl) (by kernel_rfl) (by kernel_rfl) (fun _ _ _ h => h) (fun L w => cvS_set (by decide)) (Or.inl ⟨by rfl, fun w => by go_simp⟩) hSb (fun hS => ?_)
  simp only [List.getElem_toArray, List.getElem_cons_zero, List.getElem_cons_succ, Act.put, List.setIfInBounds_toArray, List.set_cons_zero, List.set_cons_succ]
  clear hSb
  refine till_one (i := 52) (by kernel_rfl) rfl (fun K hK => ?_)
  simp only [List.getElem_toArray, List.getElem_cons_zero, List.getElem_cons_succ]
  rw [if_pos (by rfl)]
  go_simp
  refine hK.out _ _ (⟨.inl (by kernel_rfl), .inl (by kernel_rfl), .inl (by kernel_rfl)⟩) (fun hSb => ?_)
  clear hK K
  try simp only [List.getElem_toArray, List.getElem_cons_zero, List.getElem_cons_succ, Act.put, List.setIfInBounds_toArray, List.set_cons_zero, List.set_cons_succ]
  clear hS
  refine till_done (by kernel_rfl) ?_ _
  clear hSb
  go_wp2
  go_ret
  exact ⟨rfl, F5.out⟩
end Go.Proofs.YtnhnpkedkdefnaaDoor
