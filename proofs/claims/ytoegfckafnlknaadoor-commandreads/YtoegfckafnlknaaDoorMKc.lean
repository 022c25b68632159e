import Derived.Test.YtoegfckafnlknaaDoorMJc
import Derived.Test.YtoegfckafnlknaaDoorMHx
/- Kc -/
/- The document's Read (f25). -/
namespace Go.Proofs.YtoegfckafnlknaaDoor
open Go.ChangeShapes Go.WideShapes Go.ChangeAt Go.RowKit
set_option maxRecDepth 20000
set_option linter.unusedVariables false
set_option linter.unusedSimpArgs false
theorem rt_lim (l : List Nat) (p : Nat) : rt l p ((l.length : Nat) : Int) = rt l p ((l.length - p : Nat) : Int) := by
  have e : rdB l p ((l.length : Nat) : Int) = rdB l p ((l.length - p : Nat) : Int) := by
    unfold rdB
    by_cases h : (nat 9 (l.drop p) 0 0).2.2 = true ∧ p + (nat 9 (l.drop p) 0 0).2.1 + (nat 9 (l.drop p) 0 0).1 ≤ l.length
    · rw [if_pos ⟨h.1, by omega, h.2⟩, if_pos ⟨h.1, by omega, h.2⟩]
    · rw [if_neg (fun h2 => h ⟨h2.1, h2.2.2⟩), if_neg (fun h2 => h ⟨h2.1, h2.2.2⟩)]
  unfold rt
  rw [e]
section
variable {w : World} {g : Nat} {a : Option Addr} {n c : Nat} {l : List Nat} {p : Nat} {z : Int}
theorem refbytR_yes {L : List Nat} {q : Nat} (hR : Hid (Rrf w g a n c l p)) (hr : Hid (rt l p z = some (L, q))) :
    Calls Tryd.prog 44 #[.pointer (some ⟨g, 0, none⟩), .int .i64 z] w fun e w' => ∃ (a' : Option Addr) (m c' : Nat), e = .returned (.tuple #[.slice a' m c', .int .i64 0]) ∧ Hid (Own w' w.heap.size a' m c' L ∧ Rrf w' g a n c l q ∧ Wfr w w' g none) := by
  refine (refrbytes_any hR).mono ?_
  rintro e w' ⟨a', m, c', x, h1, h2⟩
  have h := h2.out
  rw [rt_some hr.out] at h
  obtain ⟨h3, rfl, h5, h6⟩ := h
  exact ⟨a', m, c', h1, h3, h5, h6⟩
theorem refbytR_no (hR : Hid (Rrf w g a n c l p)) (hr : Hid (rt l p z = none)) :
    Calls Tryd.prog 44 #[.pointer (some ⟨g, 0, none⟩), .int .i64 z] w fun e w' => ∃ (a' : Option Addr) (m c' : Nat), e = .returned (.tuple #[.slice a' m c', .int .i64 5]) ∧ Hid (Wfr w w' g none) := by
  refine (refrbytes_any hR).mono ?_
  rintro e w' ⟨a', m, c', x, h1, h2⟩
  rcases rt_cases l p z with ⟨L, q, h, _⟩ | ⟨_, L, q, h⟩
  · rw [hr.out] at h; cases h
  · have h3 := h2.out
    rw [h] at h3
    obtain ⟨_, rfl, _, h5⟩ := h3
    exact ⟨a', m, c', h1, h5⟩
end
structure Lr (w W : World) (g B : Nat) (a : Option Addr) (n c : Nat) (l : List Nat) (p : Nat) : Prop where
  rrf : Rrf W g a n c l p
  ge : w.heap.size ≤ g ∧ g < B
  bel : Below w.heap.size w W
  own : Own W w.heap.size a n c l
  lo : B ≤ W.heap.size
  ne : blkOf a ≠ some g
  ab : ∀ q, blkOf a = some q → q < B
section
variable {w W W' : World} {g B : Nat} {a : Option Addr} {n c : Nat} {l : List Nat} {p q : Nat}
theorem Lr.step (h : Lr w W g B a n c l p) (hR : Rrf W' g a n c l q) (hf : Wfr W W' g none) : Lr w W' g B a n c l q :=
  ⟨hR, h.ge, Wfr.below h.bel hf h.ge.1 (by simp [blkOf]) h.bel.size, h.own.block (fun k hk => hf.block k (h.own.ge k hk).2 (fun e => h.ne (by rw [hk, e])) (by simp [blkOf])), Nat.le_trans h.lo hf.size, h.ne, h.ab⟩
theorem Lr.below (h : Lr w W g B a n c l p) (hb : Below B W W') : Lr w W' g B a n c l p := by
  have hb' : ∀ k, k < B → W'.heap[k]? = W.heap[k]? := fun k hk => hb.block k hk
  have ho : Own W' w.heap.size a n c l := h.own.block (fun k hk => hb' k (h.ab k hk))
  have hs : n ≤ 140737488352256 := by rw [h.rrf.sl.len]; exact h.rrf.sl.sli.2.1
  exact ⟨⟨(hb' g h.ge.2).trans h.rrf.blk, ho.sln hs, h.rrf.nc, h.rrf.z, h.rrf.ne, h.rrf.le⟩, h.ge, h.bel.trans (hb.mono (by have := h.ge; omega)), ho, Nat.le_trans h.lo hb.size, h.ne, h.ab⟩
end
def RfR (w w' : World) (l : List Nat) (e : Ending) : Prop :=
  (rdW (opn l).1 = none ∧ e = .returned (.tuple #[.slice none 0 0, .int .i64 5]) ∧ Below w.heap.size w w') ∨ (∃ ys la ln lc, rdW (opn l).1 = some ys ∧ e = .returned (.tuple #[.slice la ln lc, .int .i64 0]) ∧ Below w.heap.size w w' ∧ ∃ Y, led Y = ys.map Nm.cm ∧ Oc w' w.heap.size la ln lc Y)
set_option maxHeartbeats 2000000 in
theorem refread_err {w : World} {a : Option Addr} {n c : Nat} {l : List Nat} {k : Nat} (hS : Hid (Sln w a n l)) (hc : Hid (a = none → c = 0)) (hnc : n ≤ c) (hk : Hid ((opn l).2 = k)) (hk0 : 0 < k) :
    Calls Tryd.prog 25 #[.slice a n c] w fun e w' => e = .returned (.tuple #[.slice none 0 0, .int .i64 (k : Int)]) ∧ Hid (Below w.heap.size w w') := by
  have i1 : ¬ ((k : Int) = 0) := by omega
  have i2 : ¬ (k = 0) := by omega
  go_enter Tryd.func25, Tryd.ntmps25
  go_wp2_with (go_at_call 54; refine (refopen_any hS hc hnc).mono ?_; rintro e w2 ⟨a2, n2, c2, k2, rfl, H2⟩; obtain rfl : k2 = k := H2.out.1.trans hk.out)
  go_ret2
  exact ⟨rfl, H2.out.2.2⟩
set_option maxHeartbeats 4000000 in
theorem refreadL_n {w : World} {a : Option Addr} {n c : Nat} {l : List Nat} (hS : Hid (Sln w a n l)) (hc : Hid (a = none → c = 0)) (hnc : n ≤ c) (ho : Hid ((opn l).2 = 0)) :
    Calls Tryd.prog 25 #[.slice a n c] w fun e w' => RfR w w' l e := by
  obtain ⟨L, HL⟩ : ∃ L, Hid ((opn l).1 = L) := ⟨_, rfl⟩
  go_enter Tryd.func25, Tryd.ntmps25
  go_upto_region 4 with (go_at_call 54; refine (refopen_any hS hc hnc).mono ?_; rintro e w2 ⟨a2, n2, c2, k2, rfl, H2⟩; obtain rfl : k2 = 0 := H2.out.1.trans ho.out)
  have O2 : Hid (Own w2 w.heap.size a2 n2 c2 L) := by rw [← HL.out]; exact H2.out.2.1
  have B2 : Hid (Below w.heap.size w w2) := H2.out.2.2
  have LN : Hid (n2 ≤ 140737488352256) := by
    have h1 := H2.out.2.1.len
    have h2 : (opn l).1.length ≤ l.length := by
      unfold opn
      split
      · exact Nat.zero_le _
      · split
        · simp only [List.length_take]; omega
        · exact Nat.zero_le _
    have h3 := hS.out.sli.2.1
    show _ ≤ _
    omega
  clear H2
  obtain ⟨g, Hg⟩ : ∃ g, Hid (w2.heap.size = g) := ⟨_, rfl⟩
  obtain ⟨w3, Hw3⟩ : ∃ w3, Hid (w2.alloc (.cells #[.slice a2 n2 c2, .int .i64 0] 79) = w3) := ⟨_, rfl⟩
  have S3 : Hid (Lr w w3 g (g + 1) a2 n2 c2 L 0) := by
    have b : Below w2.heap.size w2 w3 := by rw [← Hw3.out]; exact alloc1 w2 _
    have k4 : w3.heap[g]? = some (.cells #[.slice a2 n2 c2, .int .i64 ((0 : Nat) : Int)] 79 (0, 0)) := by rw [← Hw3.out, ← Hg.out]; exact heap_alloc_new w2 _
    have o3 : Own w3 w.heap.size a2 n2 c2 L := O2.out.below b
    have ne : blkOf a2 ≠ some g := fun e => by have := (O2.out.ge g e).2; have := Hg.out; omega
    refine ⟨⟨k4, o3.sln LN.out, O2.out.cap, O2.out.cap0, fun d off h1 h2 e => ne (by rw [h2, ← e]; rfl), Nat.zero_le _⟩, ⟨by have := B2.out.size; have := Hg.out; omega, by omega⟩, B2.out.trans (b.mono B2.out.size), o3, ?_, ne, fun q hq => by have := (O2.out.ge q hq).2; have := Hg.out; omega⟩
    rw [← Hw3.out, ← Hg.out]
    simp
  have NL : Hid (n2 = L.length) := O2.out.len
  go_upto_region 5 with (fail)
  rw [Hw3.out, Hg.out]
  clear Hw3 Hg O2 B2
  rcases opt_cases (rn L 0 4096) with e1 | ⟨⟨k, p1⟩, e1⟩
  · have ER : Hid (rn L 0 4096 = none) := e1
    go_wp2_with (go_at_call 55; refine (refnumR_no (z := 4096) (show Hid (Rrf w3 g a2 n2 c2 L 0) from S3.out.rrf) ER).mono ?_; rintro e w4 ⟨kk, rfl, H4⟩)
    go_ret2
    refine .inl ⟨?_, rfl, Wfr.below S3.out.bel H4.out.2 S3.out.ge.1 (by simp [blkOf]) S3.out.bel.size⟩
    rw [HL.out]
    unfold rdW rdL
    rw [e1]
    rfl
  have ER : Hid (rn L 0 4096 = some (k, p1)) := e1
  have RD : Hid (rdL L 0 = rl L k p1) := by
    show _ = _
    unfold rdL
    rw [e1, Option.bind_some]
  have K4 : Hid (k ≤ 4096) := by
    have h := rn_some e1
    unfold rdN at h
    split at h
    · rename_i hc2
      simp only [Prod.mk.injEq, true_and] at h
      have := hc2.2
      rw [h.1] at this
      show k ≤ 4096
      omega
    · simp at h
  clear e1
  have hk4 : (k : Int) ≤ 4096 := by have := K4.out; omega
  go_upto_region 8 with (go_at_call 55; refine (refnumR_yes (z := 4096) (show Hid (Rrf w3 g a2 n2 c2 L 0) from S3.out.rrf) ER).mono ?_; rintro e w4 ⟨rfl, H4⟩)
  have S4 : Hid (Lr w w4 g (g + 1) a2 n2 c2 L p1) := S3.out.step H4.out.1 H4.out.2
  clear H4 S3 ER
  obtain ⟨bo, Hbo⟩ : ∃ b, Hid (w4.heap.size = b) := ⟨_, rfl⟩
  obtain ⟨w5, Hw5⟩ : ∃ W, Hid (w4.alloc (.cells #[] 28) = W) := ⟨_, rfl⟩
  have S5 : Hid (Lr w w5 g (g + 1) a2 n2 c2 L p1) := by rw [← Hw5.out]; exact S4.out.below ((alloc1 w4 _).mono S4.out.lo)
  have O5 : Hid (Oc w5 (g + 1) (some ⟨bo, 0, none⟩) 0 0 []) := by
    refine ⟨?_, by omega, (fun x hx => by cases hx), (fun x hx => by cases hx)⟩
    rw [← Hw5.out, ← Hbo.out]
    exact World.ownsRow_made w4 #[] 0 S4.out.lo (by unfold maxLen; omega) (by simp)
  go_wp2
  rw [Hw5.out, Hbo.out]
  clear Hw5 Hbo S4
  go_loopw [8] (fun t8 wr => ∃ (i : Nat) (la : Option Addr) (lc q : Nat) (ys : List Nm), i ≤ k ∧ t8 = .slice la i lc ∧ Hid (Lr w wr g (g + 1) a2 n2 c2 L q) ∧ Hid (∃ Y, led Y = ys.map Nm.cm ∧ Oc wr (g + 1) la i lc Y) ∧ Hid (rl L k p1 = (rl L (k - i) q).bind fun t => some (ys ++ t.1, t.2))) (fun t8 _ => k - (match t8 with | .slice _ m _ => m | _ => 0))
  case atStart => exact ⟨0, some ⟨bo, 0, none⟩, 0, p1, [], by omega, rfl, S5.out, (by show ∃ Y, _; exact ⟨[], rfl, O5.out⟩), (by show _ = _; rw [Nat.sub_zero]; rcases opt_cases (rl L k p1) with h | ⟨r, h⟩ <;> simp [h])⟩
  case round =>
    obtain ⟨i, la, lc, q, ys, hi, rfl, S, HO, HP⟩ := hrel
    clear S5 O5
    by_cases hlt : i < k
    · have i1 : (i : Int) < (k : Int) := by omega
      rcases opt_cases (rt L q ((L.length - q : Nat) : Int)) with er1 | ⟨⟨b, q2⟩, er1⟩
      · have ER : Hid (rt L q (n2 : Int) = none) := by rw [NL.out, rt_lim]; exact er1
        have HNN : Hid (rdW (opn l).1 = none) := by rw [HL.out]; unfold rdW; rw [RD.out, rl_none1 hlt HP.out er1]; rfl
        clear er1
        go_wp2_with (go_at_call 44; refine (refbytR_no (z := (n2 : Int)) (show Hid (Rrf wr g a2 n2 c2 L q) from S.out.rrf) ER).mono ?_; rintro e v3 ⟨ab, mb, cb, rfl, h3⟩)
        go_ret2
        exact .inl ⟨HNN.out, rfl, Wfr.below S.out.bel h3.out S.out.ge.1 (by simp [blkOf]) S.out.bel.size⟩
      · have ER : Hid (rt L q (n2 : Int) = some (b, q2)) := by rw [NL.out, rt_lim]; exact er1
        have HE1 := show Hid (rt L q ((L.length - q : Nat) : Int) = some (b, q2)) from er1
        clear er1
        go_upto_region 13 with (go_at_call 44; refine (refbytR_yes (z := (n2 : Int)) (show Hid (Rrf wr g a2 n2 c2 L q) from S.out.rrf) ER).mono ?_; rintro e v3 ⟨ab, mb, cb, rfl, h3⟩)
        have T3 : Hid (Lr w v3 g (g + 1) a2 n2 c2 L q2) := S.out.step h3.out.2.1 h3.out.2.2
        have BO : Hid (Own v3 wr.heap.size ab mb cb b) := h3.out.1
        have O3 : Hid (∃ Y, led Y = ys.map Nm.cm ∧ Oc v3 (g + 1) la i lc Y) := by
          obtain ⟨Y, h1, h4⟩ := HO.out
          exact ⟨Y, h1, h4.wfr h3.out.2.2 (by omega)⟩
        have BL : Hid (b.length ≤ n2) := by
          have h1 := rt_some HE1.out
          unfold rdB at h1
          split at h1
          · rename_i hc2
            simp only [Prod.mk.injEq, true_and] at h1
            have h2 := hc2.2.2
            rw [← h1.1, NL.out]
            show _ ≤ _
            rw [List.length_take]
            omega
          · simp at h1
        clear h3 S HO
        have SB : Hid (Sln v3 ab mb b) := BO.out.sln (by have h1 := BO.out.len; have := LN.out; have := BL.out; omega)
        have ZB : Hid (ab = none → cb = 0) := BO.out.cap0
        have CB : Hid (mb ≤ cb) := BO.out.cap
        rcases opt_cases (rdG b) with er2 | ⟨y, er2⟩
        · have EG : Hid (rdG b = none) := er2
          have HNN : Hid (rdW (opn l).1 = none) := by rw [HL.out]; unfold rdW; rw [RD.out, rl_none2 hlt HP.out HE1.out er2]; rfl
          clear er2
          go_upto_region 14 with first
            | (go_at_call 18; refine (getDx_no SB ZB CB EG).mono ?_; rintro e v4 ⟨D, rfl, h4⟩
               have d18 : D.size = 18 := encX_sz h4.out.1
               have DD : Hid (D.all (·.oneCell') = true) := encX_all h4.out.1)
            | (refine wpList_store_row (by rfl) 28 (.tmp 11) (.tmp 50) (by rfl) v4.heap.size D (by rfl) (by rfl) 28 _ (heap_alloc_new v4 _) (info28 d18) d18.symm DD.out ?_)
          have F5 : Hid (Below w.heap.size w ((v4.alloc (.cells #[.int .i64 0, .int .i64 0, .int .i64 0, .int .i64 0, .string ⟨#[]⟩, .string ⟨#[]⟩, .int .i64 0, .int .i64 0, .int .i64 0, .int .i64 0, .int .i64 0, .int .i64 0, .int .i64 0, .string ⟨#[]⟩, .int .i64 0, .slice none 0 0, .int .i64 0, .int .i64 0] 28)).setRow v4.heap.size D)) := (T3.out.bel.trans (h4.out.2.mono T3.out.bel.size)).trans ((below_setRow (alloc1 v4 _) (Nat.le_refl _) D).mono (Nat.le_trans T3.out.bel.size h4.out.2.size))
          obtain ⟨v5, Hv5⟩ : ∃ v, Hid ((v4.alloc (.cells #[.int .i64 0, .int .i64 0, .int .i64 0, .int .i64 0, .string ⟨#[]⟩, .string ⟨#[]⟩, .int .i64 0, .int .i64 0, .int .i64 0, .int .i64 0, .int .i64 0, .int .i64 0, .int .i64 0, .string ⟨#[]⟩, .int .i64 0, .slice none 0 0, .int .i64 0, .int .i64 0] 28)).setRow v4.heap.size D = v) := ⟨_, rfl⟩
          rw [Hv5.out] at F5 ⊢
          try simp only [Act.put]
          go_wp2
          go_ret2
          exact .inl ⟨HNN.out, rfl, F5.out⟩
        · have EG : Hid (rdG b = some y) := er2
          have RN : Hid (rl L k p1 = (rl L (k - (i + 1)) q2).bind fun t => some ((ys ++ [y]) ++ t.1, t.2)) := rl_more hlt HP.out HE1.out er2
          have YB : Hid (Nb y) := (rdG_back BO.out.lt er2).2.2
          clear er2
          go_upto_region 16 with first
            | (go_at_call 18; refine (getDx_yesO SB ZB CB EG).mono ?_; rintro e v4 ⟨D, rfl, h4⟩
               obtain ⟨d, hd1, hd2, hd3, hd4, hd5⟩ := h4.out
               have HD : Hid (D = (encX d).toArray) := hd1
               have HDC : Hid (d.cm = y.cm) := hd2
               have RD4 : Hid (v4.ownsRow v3.heap.size 3 1 (.slice d.pa d.pn d.pc) d.pn (d.cm.ps.map iv)) := hd3
               have PN4 : Hid (d.pn ≤ 17592186043904) := hd4
               have B4 : Hid (Below v3.heap.size v3 v4) := hd5
               have d18 : D.size = 18 := encX_sz hd1
               have DD : Hid (D.all (·.oneCell') = true) := encX_all hd1
               clear hd1 hd2 hd3 hd4 hd5 h4)
            | (refine wpList_store_row (by rfl) 28 (.tmp 11) (.tmp 50) (by rfl) v4.heap.size D (by rfl) (by rfl) 28 _ (heap_alloc_new v4 _) (info28 d18) d18.symm DD.out ?_)
          obtain ⟨g6, Hg6⟩ : ∃ g, Hid (v4.heap.size = g) := ⟨_, rfl⟩
          obtain ⟨v5, Hv5⟩ : ∃ v, Hid ((v4.alloc (.cells #[.int .i64 0, .int .i64 0, .int .i64 0, .int .i64 0, .string ⟨#[]⟩, .string ⟨#[]⟩, .int .i64 0, .int .i64 0, .int .i64 0, .int .i64 0, .int .i64 0, .int .i64 0, .int .i64 0, .string ⟨#[]⟩, .int .i64 0, .slice none 0 0, .int .i64 0, .int .i64 0] 28)).setRow v4.heap.size D = v) := ⟨_, rfl⟩
          rw [Hv5.out, Hg6.out]
          have b5 : Hid (Below v4.heap.size v4 v5) := by rw [← Hv5.out]; exact below_setRow (alloc1 v4 _) (Nat.le_refl _) D
          have k6 : Hid (v5.heap[g6]? = some (.cells D 28 (0, 0))) := by rw [← Hv5.out, ← Hg6.out]; exact setRow_heap _ _ _ _ _ _ (heap_alloc_new v4 _)
          try simp only [Act.put]
          clear Hv5 Hg6
          obtain ⟨g7, Hg7⟩ : ∃ g, Hid (v5.heap.size = g) := ⟨_, rfl⟩
          obtain ⟨v6, Hv6⟩ : ∃ v, Hid (v5.alloc (.cells D 28) = v) := ⟨_, rfl⟩
          have b6 : Hid (Below v5.heap.size v5 v6) := by rw [← Hv6.out]; exact alloc1 v5 _
          have k7 : Hid (v6.heap[g7]? = some (.cells (encX d).toArray 28 (0, 0))) := by rw [← HD.out, ← Hv6.out, ← Hg7.out]; exact heap_alloc_new v5 _
          have B36 : Hid (Below v3.heap.size v3 v6) := (B4.out.trans (b5.out.mono B4.out.size)).trans (b6.out.mono (Nat.le_trans B4.out.size b5.out.size))
          have B46 : Hid (Below v4.heap.size v4 v6) := b5.out.trans (b6.out.mono b5.out.size)
          have G1 : Hid (g + 1 ≤ v3.heap.size) := T3.out.lo
          have T6 : Hid (Lr w v6 g (g + 1) a2 n2 c2 L q2) := T3.out.below (B36.out.mono G1.out)
          have R6 : Hid (v6.ownsRow v3.heap.size 3 1 (.slice d.pa d.pn d.pc) d.pn (d.cm.ps.map iv)) := rown_bel RD4.out (fun x hx => B46.out.block x (RD4.out.lt x hx).2)
          obtain ⟨Y, hY, OY3⟩ := O3.out
          have OY : Hid (Oc v6 (g + 1) la i lc Y) := OY3.below B36.out
          have HYL : Hid (led Y = ys.map Nm.cm) := hY
          clear OY3 hY O3
          obtain ⟨a8, c8, v8, AR0, OR0, GR0⟩ := app_cm (c := 1) (X := [d]) (a := some ⟨g7, 0, none⟩) (n := 1) OY.out.row rfl (.inr ⟨g7, 0, rfl, by have := range_blk k7.out; simpa [flat] using this⟩) (by simp) (by have := K4.out; omega) T6.out.lo
          have AR : Hid ((Builtin.append_ #[30, 30] 30 #[.slice la i lc, .slice (some ⟨g7, 0, none⟩) 1 1]).run Tryd.prog v6 = .ok (.slice a8 (i + 1) c8) v8) := AR0
          have T8 : Hid (Lr w v8 g (g + 1) a2 n2 c2 L q2) := T6.out.below (grown_below GR0 T6.out.lo (fun x hx => (OY.out.row.lt x hx).1))
          have O8 : Hid (∃ Y, led Y = (ys ++ [y]).map Nm.cm ∧ Oc v8 (g + 1) a8 (i + 1) c8 Y) := by
            rw [ownBlock_slice] at GR0
            refine ⟨Y ++ [d], ?_, ⟨OR0, by have := K4.out; omega, fun z hz => ?_, fun z hz => ?_⟩⟩
            · rw [led_cm, List.map_append, ← led_cm, HYL.out, List.map_append]
              simp [HDC.out]
            · rcases List.mem_append.1 hz with h | h
              · exact OY.out.grown GR0 z h
              · obtain rfl := List.mem_singleton.1 h
                refine ⟨rown_mono (rown_bel R6.out (fun x e => GR0.block x (R6.out.lt x e).2 (fun e2 => ?_))) G1.out, PN4.out⟩
                exact rown_ne R6.out OY.out.row (by decide) e (by rw [ownBlock_slice]; exact e2.symm)
            · rcases List.mem_append.1 hz with h | h
              · exact OY.out.st z h
              · obtain rfl := List.mem_singleton.1 h
                rw [HDC.out]
                have h := YB.out
                have h1 := h.bu
                have h2 := h.ke
                have h3 := h.et
                exact ⟨Nat.le_trans h1 (by omega), Nat.le_trans h2 (by omega), Nat.le_trans h3 (by omega)⟩
          have FD : Hid (Array.foldl (fun cs (x : Value × Nat) => cs.setIfInBounds x.snd x.fst) #[.int .i64 0, .int .i64 0, .int .i64 0, .int .i64 0, .string ⟨#[]⟩, .string ⟨#[]⟩, .int .i64 0, .int .i64 0, .int .i64 0, .int .i64 0, .int .i64 0, .int .i64 0, .int .i64 0, .string ⟨#[]⟩, .int .i64 0, .slice none 0 0, .int .i64 0, .int .i64 0] D.zipIdx 0 18 = D) := fold18 HD.out
          clear AR0 OR0 GR0 OY R6 T6 B36 B46 b5 b6 RD4 B4 T3 BO SB ZB
          go_wp2_with first
            | (refine wpList_load_row (by rfl) 28 (.tmp 11) (by rfl) g6 (by rfl) 28 D (0, 0) _ k6.out Tryd.underlying28 rfl (info28 d18) ?_)
            | (at_builtin; rw [FD.out, Hv6.out, Hg7.out]; refine wpList_appt (by rfl) (.tmp 54) (.tmp 56) (by rfl) (by rfl) (by rfl) (by rfl) AR ?_)
          go_roundw
          case rel => exact ⟨i + 1, a8, c8, q2, ys ++ [y], by omega, rfl, T8.out, O8.out, RN.out⟩
          case measure => simp; omega
    · obtain rfl : i = k := by omega
      have EN : Hid (rl L i p1 = some (ys, q)) := rl_end HP.out
      have cq : wr.cell? ⟨g, 1, none⟩ = some (.int .i64 (q : Int)) := by have h := S.out.rrf.blk; simp [World.cell?, h]
      clear hlt
      by_cases hq : q = n2
      · have hr : Hid (rdW (opn l).1 = some ys) := by
          rw [HL.out]
          unfold rdW
          rw [RD.out, EN.out, Option.bind_some, if_pos (by rw [← NL.out]; exact hq)]
          rfl
        have hq2 : (q : Int) = (n2 : Int) := by omega
        subst hq
        go_wp2
        go_ret2
        obtain ⟨Y, h1, h2⟩ := HO.out
        exact .inr ⟨ys, la, i, lc, hr.out, rfl, S.out.bel, Y, h1, h2.mono (by have := S.out.ge; omega)⟩
      · have hr : Hid (rdW (opn l).1 = none) := by
          rw [HL.out]
          unfold rdW
          rw [RD.out, EN.out, Option.bind_some, if_neg (by rw [← NL.out]; exact hq)]
          rfl
        have hq2 : ¬ ((q : Int) = (n2 : Int)) := by omega
        go_wp2
        go_ret2
        exact .inl ⟨hr.out, rfl, S.out.bel⟩
end Go.Proofs.YtoegfckafnlknaaDoor
