/- What commands make stands in order: ordered (f33). -/
import Derived.Test.YtfabnnbljkkihaaGreatDoorMx30
import Derived.Test.YtfabnnbljkkihaaGreatDoorMx43
import Derived.Test.YtfabnnbljkkihaaGreatDoorMx19
import Derived.Test.YtfabnnbljkkihaaGreatDoorMx03
import Derived.Laws.Cover1
import Derived.Sort.Walk0
namespace Go.Proofs.YtfabnnbljkkihaaGreatDoor
open Go.ChangeShapes Go.WideShapes Go.ChangeAt Go.RowKit
set_option maxRecDepth 20000
set_option linter.unusedVariables false
set_option linter.unusedSimpArgs false
theorem Okk.lf {C : Ctd} (h : Okk C) : C.fls.length ≤ 16 := by
  have hs := List.pairwise_iff_getElem.1 h.sf
  have key : ∀ i (hi : i < C.fls.length), (i : Int) ≤ C.fls[i].i0 := by
    intro i
    induction i with
    | zero => intro hi; exact (h.fl _ (List.getElem_mem hi)).1
    | succ i ih =>
      intro hi
      have h1 := ih (by omega)
      have h2 := (cmI_lt _ _).1 (hs i (i + 1) (by omega) hi (by omega))
      omega
  apply Nat.le_of_not_lt
  intro hlt
  have h1 := key 16 hlt
  have h2 := (h.fl _ (List.getElem_mem hlt)).2
  omega
theorem stay_o {w w' : World} {g : Nat} {o : Obj} (H : Hid (Below w.heap.size w w')) (k : Hid (w.heap[g]? = some o)) : Hid (w'.heap[g]? = some o) := (H.out.block g (Array.getElem?_eq_some_iff.1 k.out).1).trans k.out
theorem cellD {W : World} {g : Nat} (i : Nat) {A : Array Value} {t : TypeId} {fr : Nat × Nat} {v : Value} (h : Hid (W.heap[g]? = some (.cells A t fr))) (hv : A[i]? = some v) (j : Nat) : (W.drewN j).cell? ⟨g, i, none⟩ = some v := cell_arr (W := W) h.out hv
theorem cellO {W : World} {g : Nat} (i : Nat) {A : Array Value} {t : TypeId} {fr : Nat × Nat} {v : Value} (h : Hid (W.heap[g]? = some (.cells A t fr))) (hv : A[i]? = some v) : W.cell? ⟨g, i, none⟩ = some v := cell_arr h.out hv
theorem enc_to {α : Type} {E : Enc α} {V : Array Value} {x : α} (h : Hid (V = (E.e x).toArray)) {i : Nat} {v : Value} (hv : (E.e x)[i]? = some v) : V[i]? = some v := by rw [h.out]; simpa using hv
theorem enc_ar {α : Type} {E : Enc α} {V : Array Value} {x : α} (h : Hid (V = (E.e x).toArray)) : Hid (Arr E.z V) := by
  rw [h.out]
  exact ⟨by simp [E.len], by simpa using E.one x⟩
theorem one_bx (W : World) (Z R : Array Value) (t : TypeId) : ∃ w3, Hid ((W.alloc (.cells Z t)).setRow W.heap.size R = w3) ∧ Hid ((W.alloc (.cells Z t)).heap[W.heap.size]? = some (.cells Z t (0, 0))) ∧ Hid (w3.heap[W.heap.size]? = some (.cells R t (0, 0)) ∧ Below W.heap.size W w3) :=
  ⟨_, rfl, heap_alloc_new W _, setRow_heap _ _ _ _ _ _ (heap_alloc_new W _), below_setRow (alloc1 W _) (Nat.le_refl _) _⟩
theorem cmpB_lt : ∀ (a b : List UInt8), Lib.compareBytes a b < 0 ↔ a < b
  | [], [] => by simp [Lib.compareBytes]
  | [], y :: b => by simp [Lib.compareBytes]
  | x :: a, [] => by simp [Lib.compareBytes]
  | x :: a, y :: b => by
    unfold Lib.compareBytes
    rw [List.cons_lt_cons_iff]
    split
    · rename_i h; simp [h]
    · rename_i h
      split
      · rename_i h2
        have : ¬ x = y := fun e => by subst e; exact h h2
        simp [h, this]
      · rename_i h2
        have e : x = y := UInt8.le_antisymm (UInt8.not_lt.1 h2) (UInt8.not_lt.1 h)
        rw [cmpB_lt a b]
        simp [h, e]
theorem less_of {a b : ByteArray} (h : cmS a b < 0) : (Op.bytesLess a.toList b.toList) = true := by
  rw [bytesLess_eq, ByteArray.toList_eq, ByteArray.toList_eq]
  exact decide_eq_true ((cmpB_lt _ _).1 h)
theorem srt_two {α κ : Type} {cp : κ → κ → Int} {key : α → κ} {l : List α} (h : Srt cp key l) {i j : Nat} (hj : j < l.length) (hi : i < j) : cp (key (l[i]'(Nat.lt_trans hi hj))) (key l[j]) < 0 := List.pairwise_iff_getElem.1 h _ _ _ hj hi
theorem less57 (a0 a1 a2 b0 b1 b2 : Int) (w : World) : Calls Tryz.prog 57 #[.agg #[.int .i64 a0, .int .i64 a1, .int .i64 a2], .agg #[.int .i64 b0, .int .i64 b1, .int .i64 b2]] w fun e w' => e = .returned (.bool (decide (cmD a0 a1 a2 b0 b1 b2 < 0))) ∧ Hid (Below w.heap.size w w') := by
  have cI : Hid (∀ a b : Int, (decide (cmI a b < 0)) = decide (a < b)) := fun a b => decide_eq_decide.2 (cmI_lt a b)
  have cE : Hid (∀ a : Int, cmI a a = 0) := fun a => by unfold cmI; rw [if_neg (Int.lt_irrefl a), if_neg (Int.lt_irrefl a)]
  have cN : Hid (∀ a b : Int, a ≠ b → cmI a b ≠ 0) := fun a b h => by unfold cmI; split <;> (try split) <;> omega
  go_enter Tryz.func57, Tryz.ntmps57
  by_cases h0 : a0 = b0
  · subst h0
    by_cases h1 : a1 = b1
    · subst h1
      have e1 : Hid (decide (cmD a0 a1 a2 a0 a1 b2 < 0) = decide (a2 < b2)) := by
        show _ = _
        unfold cmD
        rw [if_neg (by rw [cE.out]; simp), if_neg (by rw [cE.out]; simp), cI.out]
      go_wp2
      go_ret
      exact ⟨by rw [e1.out]; rfl, alloc2 w _ _⟩
    · have n1 : (a1 != b1) = true := by simp [h1]
      have e1 : Hid (decide (cmD a0 a1 a2 a0 b1 b2 < 0) = decide (a1 < b1)) := by
        show _ = _
        unfold cmD
        rw [if_neg (by rw [cE.out]; simp), if_pos (cN.out _ _ h1), cI.out]
      clear h1
      go_wp2
      go_ret
      exact ⟨by rw [e1.out]; rfl, alloc2 w _ _⟩
  · have n1 : (a0 != b0) = true := by simp [h0]
    have e1 : Hid (decide (cmD a0 a1 a2 b0 b1 b2 < 0) = decide (a0 < b0)) := by
      show _ = _
      unfold cmD
      rw [if_pos (cN.out _ _ h0), cI.out]
    clear h0
    go_wp2
    go_ret
    exact ⟨by rw [e1.out]; rfl, alloc2 w _ _⟩
set_option maxHeartbeats 16000000 in
theorem ordered_n {w : World} {A : Array Value} {P : Ctd} {K lo : Nat} (hK : K ≤ 1048576) (hA : Hid (Ctm K w lo A P)) (hO : Hid (Okk P)) :
    Calls Tryz.prog 33 #[.agg A] w fun e w' => e = .returned (.bool true) ∧ Hid (Below w.heap.size w w') := by
  obtain ⟨a, n, c, X, fa, fn, fc, F, EA, CA, PA⟩ := hA.out
  obtain ⟨hi, Hhi⟩ : ∃ z, Hid (w.heap.size = z) := ⟨_, rfl⟩
  have HEA : Hid (A = #[.slice a n c, .slice fa fn fc]) := EA
  have HCA : Hid (CtO K w lo hi a n c X fa fn fc F) := by rw [← Hhi.out]; exact CA
  subst PA
  clear EA CA hA
  obtain ⟨w1, Hw1⟩ : ∃ w1, Hid (w.alloc (.cells A 58) = w1) := ⟨_, rfl⟩
  obtain ⟨g, Hg⟩ : ∃ g, Hid (w.heap.size = g) := ⟨_, rfl⟩
  have B1 : Hid (Below w.heap.size w w1) := by rw [← Hw1.out]; exact alloc1 w _
  have ka : Hid (w1.heap[g]? = some (.cells A 58 (0, 0))) := by rw [← Hw1.out, ← Hg.out]; exact heap_alloc_new w _
  have CT : Hid (CtO K w1 lo hi a n c X fa fn fc F) := HCA.out.below B1.out
  have nL : Hid (n = X.length) := CT.out.b.len
  have fL : Hid (fn = F.length) := CT.out.f.len
  have n16 : (n : Int) ≤ 16 := by have := hO.out.lb; rw [List.length_map] at this; have := nL.out; omega
  have f16 : (fn : Int) ≤ 16 := by have h2 : F.length ≤ 16 := hO.out.lf; have := fL.out; omega
  have hnK : n ≤ 1048576 := by omega
  have hfK : fn ≤ 1048576 := by omega
  have qa0 : w1.cell? ⟨g, 0, none⟩ = some (.slice a n c) := cellO 0 ka (by rw [HEA.out]; rfl)
  have qa1 : w1.cell? ⟨g, 1, none⟩ = some (.slice fa fn fc) := cellO 1 ka (by rw [HEA.out]; rfl)
  have d16 : decide ((16 : Int) < (n : Int)) = false := decide_eq_false (by omega)
  have e16 : decide ((16 : Int) < (fn : Int)) = false := decide_eq_false (by omega)
  go_enter Tryz.func33, Tryz.ntmps33
  go_upto_region 1 with (fail)
  rw [Hw1.out, Hg.out]
  clear Hw1 HCA
  go_upto_region 4 with (fail)
  clear qa0 qa1 d16 e16
  go_loopw [29] (fun ti wr => ∃ (i : Nat), i ≤ n ∧ ti = .int .i64 i ∧ Hid (Below w1.heap.size w1 wr)) (fun ti _ => n - (intOf ti).toNat)
  case atStart => exact ⟨0, by omega, rfl, Below.refl _ _⟩
  case round =>
    obtain ⟨i, hin, rfl, HW⟩ := hrel
    by_cases hlt : i < n
    rotate_left
    · have ein : i = n := by omega
      subst ein
      have kar := stay_o HW ka
      have qf : wr.cell? ⟨g, 1, none⟩ = some (.slice fa fn fc) := cellO 1 kar (by rw [HEA.out]; rfl)
      obtain ⟨up, Hup⟩ : ∃ u, Hid (wr = u) := ⟨_, rfl⟩
      rw [Hup.out] at qf HW kar
      rw [Hup.out]
      clear Hup
      go_upto_region 34 with (fail)
      clear qf
      have BUP : Hid (Below w1.heap.size w1 up) := HW
      clear HW
      go_loopw [168] (fun ti wr => ∃ (k : Nat), k ≤ fn ∧ ti = .int .i64 k ∧ Hid (Below up.heap.size up wr)) (fun ti _ => fn - (intOf ti).toNat)
      case atStart => exact ⟨0, by omega, rfl, Below.refl _ _⟩
      case round =>
        obtain ⟨k, hk', rfl, HW⟩ := hrel
        by_cases hlt : k < fn
        · have i3 : (k : Int) < (fn : Int) := by omega
          have BA : Hid (Below w1.heap.size w1 wr) := BUP.out.trans (HW.out.mono BUP.out.size)
          have RP : Hid (Rw wr lo hi 24 EId fa fn fc F) := CT.out.f.keep (fun q _ _ hq => BA.out.block q hq)
          have kk_ : k < F.length := by rw [← RP.out.len]; omega
          obtain ⟨blf, e1, _, _, r1⟩ := RP.out.at_ kk_
          obtain ⟨f, Hf⟩ : ∃ z9, Hid (F[k] = z9) := ⟨F[k], (rfl : F[k] = F[k])⟩
          rw [Hf.out] at r1
          have R1 : Hid (wr.rangeAt blf (k * 3) (EId.e f)) := r1
          have Mf : Hid (f ∈ F) := List.mem_of_getElem? (by rw [← Hf.out]; exact List.getElem?_eq_getElem kk_)
          have Ef : Hid (F[k]? = some f) := by show _ = _; rw [← Hf.out]; exact List.getElem?_eq_getElem kk_
          rw [e1]
          have Hef : Hid (fa = some ⟨blf, 0, none⟩) := e1
          clear r1 kk_ Hf e1
          obtain ⟨Vf, HVf⟩ : ∃ V, Hid (V = (EId.e f).toArray) := ⟨_, rfl⟩
          have VfS : Hid (Arr 3 Vf) := enc_ar HVf
          have Vfz : (Tryz.prog.info? 24).map (·.size) = some Vf.size := by rw [VfS.out.1]; kernel_rfl
          obtain ⟨r1, Hr1, Z1, K1⟩ := one_bx wr #[.int .i64 0, .int .i64 0, .int .i64 0] Vf 24
          go_upto_region 36 with (first
            | (refine wpList_ldE (by rfl) (.tmp 171) (by rfl) blf (k * 3) (by rfl) HVf.out R1.out Tryz.underlying24 rfl (by kernel_rfl) ?_)
            | (refine wpList_store_row (by rfl) 24 (.tmp 15) (.tmp 172) (by rfl) wr.heap.size Vf (by rfl) (by rfl) 24 _ Z1.out Vfz (by rw [VfS.out.1]; rfl) VfS.out.2 ?_))
          obtain ⟨gp, Hgp⟩ : ∃ g, Hid (wr.heap.size = g) := ⟨_, rfl⟩
          rw [Hr1.out, Hgp.out]
          have kp : Hid (r1.heap[gp]? = some (.cells Vf 24 (0, 0))) := by rw [← Hgp.out]; exact K1.out.1
          have BR1 : Hid (Below wr.heap.size wr r1) := K1.out.2
          have BR : Hid (Below up.heap.size up r1) := HW.out.trans (BR1.out.mono HW.out.size)
          clear K1 Hr1 Z1 Hgp BR1 R1
          have q0 := cellD 0 kp (enc_to (E := EId) HVf (v := .int .i64 f.i0) rfl)
          have kvr := stay_o BR kar
          have BA1 : Hid (Below w1.heap.size w1 r1) := BUP.out.trans (BR.out.mono BUP.out.size)
          have RQ : Hid (Rw r1 lo hi 24 EId fa fn fc F) := CT.out.f.keep (fun q _ _ hq => BA1.out.block q hq)
          by_cases hz : 0 < k
          case' neg =>
            have z0 : (k : Int) ≤ 0 := by omega
            have z1 : decide (0 < k) = false := decide_eq_false hz
            have z2 : decide ((0 : Int) < (k : Int)) = false := decide_eq_false (by omega)
            try simp only [Act.put]
            go_quiet (fail)
            clear z0 z1 z2
          case' pos =>
            obtain ⟨p, hp⟩ : ∃ p, Hid (k = p + 1) := ⟨k - 1, (by omega : k = k - 1 + 1)⟩
            have z0 : 0 < (k : Int) := by omega
            have z1 : decide (0 < k) = true := decide_eq_true hz
            have z2 : decide ((0 : Int) < (k : Int)) = true := decide_eq_true (by omega)
            have zp : (k : Int) - 1 = (p : Int) := by have := hp.out; omega
            have ip : (p : Int) < (fn : Int) := by have := hp.out; omega
            have kp : p < F.length := by rw [← fL.out]; have := hp.out; omega
            have kq : p + 1 < F.length := by rw [← fL.out]; have := hp.out; omega
            have hel : F[p + 1] = f := Option.some.inj ((List.getElem?_eq_getElem kq).symm.trans (by rw [← hp.out]; exact Ef.out))
            obtain ⟨b2, e2, _, _, r2⟩ := RQ.out.at_ kp
            rw [Hef.out] at e2
            cases e2
            have qc := cellD 1 kvr (by rw [HEA.out]; rfl : A[1]? = some (.slice fa fn fc))
            rw [Hef.out] at qc
            have qp : ∀ j, (r1.drewN j).cell? ⟨blf, p * 3, none⟩ = some (.int .i64 (F[p]).i0) := fun j => r2 0 _ rfl
            have SL : (F[p]).i0 < f.i0 := by
              have h : Srt cmI Idd.i0 F := hO.out.sf
              have h := srt_two (i := p) (j := p + 1) h kq (Nat.lt_succ_self p)
              rw [hel] at h
              exact (cmI_lt _ _).1 h
            obtain ⟨np, Hnp⟩ : ∃ s, Hid ((F[p]).i0 = s) := ⟨(F[p]).i0, (rfl : (F[p]).i0 = (F[p]).i0)⟩
            rw [Hnp.out] at qp SL
            have SM : decide (f.i0 ≤ np) = false := decide_eq_false (by omega)
            clear Hnp SL
            clear r2 kp kq hel
            try simp only [Act.put]
            go_quiet (fail)
            clear z0 z1 z2 zp qc qp SM
          all_goals
            have BZ : Hid (Below up.heap.size up (r1.drewN nq)) := below_drewN BR.out _
            clear q0
            go_wp2
            go_roundw
            case rel => exact ⟨k + 1, by omega, by go_num, BZ⟩
            case measure => simp [intOf]; omega
        · have i4 : ¬ ((k : Int) < (fn : Int)) := by omega
          go_wp2
          go_ret
          exact ⟨rfl, B1.out.trans ((BUP.out.trans (HW.out.mono BUP.out.size)).mono B1.out.size)⟩
    have i3 : (i : Int) < (n : Int) := by omega
    have RX : Hid (Rw wr lo hi 65 EBk a n c X) := CT.out.b.keep (fun q _ _ hq => HW.out.block q hq)
    have kk_ : i < X.length := by rw [← RX.out.len]; omega
    obtain ⟨blb, e1, _, _, r1⟩ := RX.out.at_ kk_
    obtain ⟨b, Hb⟩ : ∃ z9, Hid (X[i] = z9) := ⟨X[i], (rfl : X[i] = X[i])⟩
    rw [Hb.out] at r1
    have R1 : Hid (wr.rangeAt blb (i * 5) (EBk.e b)) := r1
    have Mb : Hid (b ∈ X) := List.mem_of_getElem? (by rw [← Hb.out]; exact List.getElem?_eq_getElem kk_)
    have Eb : Hid (X[i]? = some b) := by show _ = _; rw [← Hb.out]; exact List.getElem?_eq_getElem kk_
    rw [e1]
    have Heb : Hid (a = some ⟨blb, 0, none⟩) := e1
    clear r1 kk_ Hb e1
    obtain ⟨Vb, HVb⟩ : ∃ V, Hid (V = (EBk.e b).toArray) := ⟨_, rfl⟩
    have VbS : Hid (Arr 5 Vb) := enc_ar HVb
    have Vbz : (Tryz.prog.info? 65).map (·.size) = some Vb.size := by rw [VbS.out.1]; kernel_rfl
    obtain ⟨t1, Ht1, Z1, K1⟩ := one_bx wr #[.string ⟨#[]⟩, .int .i64 0, .int .i64 0, .slice none 0 0, .slice none 0 0] Vb 65
    go_upto_region 6 with (first
      | (refine wpList_ldE (by rfl) (.tmp 32) (by rfl) blb (i * 5) (by rfl) HVb.out R1.out Tryz.underlying65 rfl (by kernel_rfl) ?_)
      | (refine wpList_store_row (by rfl) 65 (.tmp 4) (.tmp 33) (by rfl) wr.heap.size Vb (by rfl) (by rfl) 65 _ Z1.out Vbz (by rw [VbS.out.1]; rfl) VbS.out.2 ?_))
    obtain ⟨gb, Hgb⟩ : ∃ g, Hid (wr.heap.size = g) := ⟨_, rfl⟩
    rw [Ht1.out, Hgb.out]
    have kb : Hid (t1.heap[gb]? = some (.cells Vb 65 (0, 0))) := by rw [← Hgb.out]; exact K1.out.1
    have BT1 : Hid (Below wr.heap.size wr t1) := K1.out.2
    have BT : Hid (Below w1.heap.size w1 t1) := HW.out.trans (BT1.out.mono HW.out.size)
    clear K1 Ht1 Z1 Hgb BT1 R1
    have OKB : Hid (Okb b.bk) := hO.out.bk _ (List.mem_map_of_mem Mb.out)
    have BO : Hid (BkO K t1 lo hi b) := (CT.out.bb b Mb.out).keep (fun q _ _ hq => BT.out.block q hq)
    have onL : Hid (b.on = b.ox.length) := BO.out.o.len
    have unL : Hid (b.un = b.ux.length) := BO.out.u.len
    have on8 : (b.on : Int) ≤ 128 := by have h := OKB.out.lo; rw [show b.bk.obs = b.ox.map Obx.ob from rfl, List.length_map] at h; have := onL.out; omega
    have un6 : (b.un : Int) ≤ 16 := by have h := OKB.out.lu; rw [show b.bk.uls = b.ux.map Ulx.ul from rfl, List.length_map] at h; have := unL.out; omega
    have onK : b.on ≤ 1048576 := by omega
    have unK : b.un ≤ 1048576 := by omega
    have d128 : decide ((128 : Int) < (b.on : Int)) = false := decide_eq_false (by omega)
    have du16 : decide ((16 : Int) < (b.un : Int)) = false := decide_eq_false (by omega)
    have ka1 := stay_o BT ka
    have q3 := cellD 3 kb (enc_to (E := EBk) HVb (v := .slice b.oa b.on b.oc) rfl)
    have q4 := cellD 4 kb (enc_to (E := EBk) HVb (v := .slice b.ua b.un b.uc) rfl)
    have RT : Hid (Rw t1 lo hi 65 EBk a n c X) := CT.out.b.keep (fun q _ _ hq => BT.out.block q hq)
    by_cases hz : 0 < i
    case' neg =>
      have z0 : (i : Int) ≤ 0 := by omega
      have z1 : decide (0 < i) = false := decide_eq_false hz
      have z2 : decide ((0 : Int) < (i : Int)) = false := decide_eq_false (by omega)
      try simp only [Act.put]
      go_quiet (fail)
      clear z0 z1 z2
    case' pos =>
      obtain ⟨p, hp⟩ : ∃ p, Hid (i = p + 1) := ⟨i - 1, (by omega : i = i - 1 + 1)⟩
      have z0 : 0 < (i : Int) := by omega
      have z1 : decide (0 < i) = true := decide_eq_true hz
      have z2 : decide ((0 : Int) < (i : Int)) = true := decide_eq_true (by omega)
      have zp : (i : Int) - 1 = (p : Int) := by have := hp.out; omega
      have ip : (p : Int) < (n : Int) := by have := hp.out; omega
      have kp : p < X.length := by rw [← nL.out]; have := hp.out; omega
      have kq : p + 1 < X.length := by rw [← nL.out]; have := hp.out; omega
      have hel : X[p + 1] = b := Option.some.inj ((List.getElem?_eq_getElem kq).symm.trans (by rw [← hp.out]; exact Eb.out))
      obtain ⟨b2, e2, _, _, r2⟩ := RT.out.at_ kp
      rw [Heb.out] at e2
      cases e2
      have q0 := cellD 0 kb (enc_to (E := EBk) HVb (v := .string b.nm) rfl)
      have qc := cellD 0 ka1 (by rw [HEA.out]; rfl : A[0]? = some (.slice a n c))
      rw [Heb.out] at qc
      have qp : ∀ j, (t1.drewN j).cell? ⟨blb, p * 5, none⟩ = some (.string (X[p]).nm) := fun j => r2 0 _ rfl
      have SL : Op.bytesLess (X[p]).nm.toList b.nm.toList = true := by
        have h := srt_two (i := p) (j := p + 1) hO.out.sb (by rw [List.length_map]; exact kq) (Nat.lt_succ_self p)
        simp only [List.getElem_map] at h
        rw [hel] at h
        exact less_of h
      obtain ⟨np, Hnp⟩ : ∃ s, Hid (X[p].nm = s) := ⟨X[p].nm, (rfl : X[p].nm = X[p].nm)⟩
      rw [Hnp.out] at qp SL
      clear Hnp
      clear r2 kp kq hel
      try simp only [Act.put]
      go_quiet (fail)
      clear z0 z1 z2 zp q0 qc qp SL
    all_goals
      clear q3 q4 hz d128 du16
      obtain ⟨u0, Hu0⟩ : ∃ u, Hid (t1.drewN nq = u) := ⟨_, rfl⟩
      have kb0 : Hid (u0.heap[gb]? = some (.cells Vb 65 (0, 0))) := by rw [← Hu0.out]; exact kb.out
      have BU0 : Hid (Below w1.heap.size w1 u0) := by rw [← Hu0.out]; exact below_drewN BT.out _
      have BO0 : Hid (BkO K u0 lo hi b) := (CT.out.bb b Mb.out).keep (fun q _ _ hq => BU0.out.block q hq)
      rw [Hu0.out]
      clear Hu0 RT ka1 kb BT BO
      have qo : u0.cell? ⟨gb, 3, none⟩ = some (.slice b.oa b.on b.oc) := cellO 3 kb0 (enc_to (E := EBk) HVb rfl)
      go_upto_region 9 with (fail)
      clear qo
      go_loopw [63] (fun ti wr => ∃ (k : Nat), k ≤ b.on ∧ ti = .int .i64 k ∧ Hid (Below u0.heap.size u0 wr)) (fun ti _ => b.on - (intOf ti).toNat)
      case atStart => exact ⟨0, by omega, rfl, Below.refl _ _⟩
      case round =>
        obtain ⟨k, hk', rfl, HW⟩ := hrel
        by_cases hlt : k < b.on
        · have i3 : (k : Int) < (b.on : Int) := by omega
          have RY : Hid (Rw wr lo hi 71 EOb b.oa b.on b.oc b.ox) := BO0.out.o.keep (fun q _ _ hq => HW.out.block q hq)
          have kk_ : k < b.ox.length := by rw [← RY.out.len]; omega
          obtain ⟨bly, e1, _, _, r1⟩ := RY.out.at_ kk_
          obtain ⟨y, Hy⟩ : ∃ z9, Hid (b.ox[k] = z9) := ⟨b.ox[k], (rfl : b.ox[k] = b.ox[k])⟩
          rw [Hy.out] at r1
          have R1 : Hid (wr.rangeAt bly (k * 5) (EOb.e y)) := r1
          have My : Hid (y ∈ b.ox) := List.mem_of_getElem? (by rw [← Hy.out]; exact List.getElem?_eq_getElem kk_)
          have Ey : Hid (b.ox[k]? = some y) := by show _ = _; rw [← Hy.out]; exact List.getElem?_eq_getElem kk_
          rw [e1]
          have Hey : Hid (b.oa = some ⟨bly, 0, none⟩) := e1
          clear r1 kk_ Hy e1
          obtain ⟨Vy, HVy⟩ : ∃ V, Hid (V = (EOb.e y).toArray) := ⟨_, rfl⟩
          have VyS : Hid (Arr 5 Vy) := enc_ar HVy
          have Vyz : (Tryz.prog.info? 71).map (·.size) = some Vy.size := by rw [VyS.out.1]; kernel_rfl
          obtain ⟨s1, Hs1, Z1, K1⟩ := one_bx wr #[.string ⟨#[]⟩, .int .i64 0, .string ⟨#[]⟩, .int .i64 0, .slice none 0 0] Vy 71
          go_upto_region 11 with (first
            | (refine wpList_ldE (by rfl) (.tmp 66) (by rfl) bly (k * 5) (by rfl) HVy.out R1.out Tryz.underlying71 rfl (by kernel_rfl) ?_)
            | (refine wpList_store_row (by rfl) 71 (.tmp 6) (.tmp 67) (by rfl) wr.heap.size Vy (by rfl) (by rfl) 71 _ Z1.out Vyz (by rw [VyS.out.1]; rfl) VyS.out.2 ?_))
          obtain ⟨gy, Hgy⟩ : ∃ g, Hid (wr.heap.size = g) := ⟨_, rfl⟩
          rw [Hs1.out, Hgy.out]
          have ky : Hid (s1.heap[gy]? = some (.cells Vy 71 (0, 0))) := by rw [← Hgy.out]; exact K1.out.1
          have BS1 : Hid (Below wr.heap.size wr s1) := K1.out.2
          have BS : Hid (Below u0.heap.size u0 s1) := HW.out.trans (BS1.out.mono HW.out.size)
          clear K1 Hs1 Z1 Hgy BS1 R1
          have YO : Hid (ObO K s1 lo hi y) := (BO0.out.oo y My.out).keep (fun q _ _ hq => BS.out.block q hq)
          have OKY : Hid (Oko y.ob) := OKB.out.ob _ (List.mem_map_of_mem My.out)
          have ynL : Hid (y.n = y.ob.pcs.length) := YO.out.r.len
          have ynK : y.n ≤ 1048576 := Nat.le_trans YO.out.k hK
          have qp : s1.cell? ⟨gy, 4, none⟩ = some (.slice y.a y.n y.c) := cellO 4 ky (enc_to (E := EOb) HVy rfl)
          go_upto_region 13 with (fail)
          clear qp
          go_loopw [7, 71] (fun t7 t71 wr => ∃ (m : Nat) (s : Int), m ≤ y.n ∧ t71 = .int .i64 m ∧ t7 = .int .i64 s ∧ Hid (sizO (y.ob.pcs.take m) = s) ∧ Hid (Below s1.heap.size s1 wr)) (fun _ t71 _ => y.n - (intOf t71).toNat)
          case atStart => exact ⟨0, 0, by omega, rfl, rfl, rfl, Below.refl _ _⟩
          case round =>
            obtain ⟨m, s, hm, rfl, rfl, HS, HW⟩ := hrel
            by_cases hlt : m < y.n
            · have i3 : (m : Int) < (y.n : Int) := by omega
              have RP : Hid (Rw wr lo hi 26 EPc y.a y.n y.c y.ob.pcs) := YO.out.r.keep (fun q _ _ hq => HW.out.block q hq)
              have kk_ : m < y.ob.pcs.length := by rw [← RP.out.len]; omega
              obtain ⟨blp, e1, _, _, r1⟩ := RP.out.at_ kk_
              obtain ⟨p, Hp⟩ : ∃ z9, Hid (y.ob.pcs[m] = z9) := ⟨y.ob.pcs[m], (rfl : y.ob.pcs[m] = y.ob.pcs[m])⟩
              rw [Hp.out] at r1
              have R1 : Hid (wr.rangeAt blp (m * 5) (EPc.e p)) := r1
              have Mp : Hid (p ∈ y.ob.pcs) := List.mem_of_getElem? (by rw [← Hp.out]; exact List.getElem?_eq_getElem kk_)
              have Ep : Hid (y.ob.pcs[m]? = some p) := by show _ = _; rw [← Hp.out]; exact List.getElem?_eq_getElem kk_
              rw [e1]
              have Hep : Hid (y.a = some ⟨blp, 0, none⟩) := e1
              clear r1 kk_ Hp e1
              obtain ⟨Vp, HVp⟩ : ∃ V, Hid (V = (EPc.e p).toArray) := ⟨_, rfl⟩
              have VpS : Hid (Arr 5 Vp) := enc_ar HVp
              have Vpz : (Tryz.prog.info? 26).map (·.size) = some Vp.size := by rw [VpS.out.1]; kernel_rfl
              obtain ⟨r1, Hr1, Z1, K1⟩ := one_bx wr #[.int .i64 0, .int .i64 0, .int .i64 0, .int .i64 0, .string ⟨#[]⟩] Vp 26
              go_upto_region 15 with (first
                | (refine wpList_ldE (by rfl) (.tmp 73) (by rfl) blp (m * 5) (by rfl) HVp.out R1.out Tryz.underlying26 rfl (by kernel_rfl) ?_)
                | (refine wpList_store_row (by rfl) 26 (.tmp 9) (.tmp 74) (by rfl) wr.heap.size Vp (by rfl) (by rfl) 26 _ Z1.out Vpz (by rw [VpS.out.1]; rfl) VpS.out.2 ?_))
              obtain ⟨gp, Hgp⟩ : ∃ g, Hid (wr.heap.size = g) := ⟨_, rfl⟩
              rw [Hr1.out, Hgp.out]
              have kp : Hid (r1.heap[gp]? = some (.cells Vp 26 (0, 0))) := by rw [← Hgp.out]; exact K1.out.1
              have BR1 : Hid (Below wr.heap.size wr r1) := K1.out.2
              have BR : Hid (Below s1.heap.size s1 r1) := HW.out.trans (BR1.out.mono HW.out.size)
              clear K1 Hr1 Z1 Hgp BR1 R1
              have qs : r1.cell? ⟨gp, 3, none⟩ = some (.int .i64 p.sz) := cellO 3 kp (enc_to (E := EPc) HVp rfl)
              obtain ⟨v, Hv⟩ : ∃ v, Hid (IntKind.i64.wrap (s + p.sz) = v) := ⟨_, rfl⟩
              have wv := Hv.out
              have NX : Hid (sizO (y.ob.pcs.take (m + 1)) = v) := by show _ = _; rw [sizO_snoc Ep.out, HS.out, Hv.out]
              go_wp2
              go_roundw
              case rel => exact ⟨m + 1, v, by omega, by go_num, rfl, NX, BR⟩
              case measure => simp [intOf]; omega
            · have SZ : Hid (y.ob.size = s) := by
                show _ = _
                rw [OKY.out.sz, ← HS.out, List.take_of_length_le (by have := ynL.out; omega)]
              have kyr := stay_o HW ky
              have BY : Hid (Below u0.heap.size u0 wr) := BS.out.trans (HW.out.mono BS.out.size)
              have kbr := stay_o BY kb0
              have q4 := cellD 4 kyr (enc_to (E := EOb) HVy (v := .slice y.a y.n y.c) rfl)
              have q1 := cellD 1 kyr (enc_to (E := EOb) HVy (v := .int .i64 y.ob.size) rfl)
              rw [SZ.out] at q1
              have zn : ((y.n : Int) == 0) = false := by
                have h1 := OKY.out.ne
                have h2 : y.ob.pcs.length ≠ 0 := fun e => h1 (List.length_eq_zero_iff.1 e)
                have h3 := ynL.out
                have h4 : ¬ (y.n : Int) = 0 := by omega
                simpa using h4
              have RQ : Hid (Rw wr lo hi 71 EOb b.oa b.on b.oc b.ox) := BO0.out.o.keep (fun q _ _ hq => BY.out.block q hq)
              go_upto_region 17 with (fail)
              by_cases hz : 0 < k
              case' neg =>
                have z0 : (k : Int) ≤ 0 := by omega
                have z1 : decide (0 < k) = false := decide_eq_false hz
                have z2 : decide ((0 : Int) < (k : Int)) = false := decide_eq_false (by omega)
                try simp only [Act.put]
                go_quiet (fail)
                clear z0 z1 z2
              case' pos =>
                obtain ⟨p, hp⟩ : ∃ p, Hid (k = p + 1) := ⟨k - 1, (by omega : k = k - 1 + 1)⟩
                have z0 : 0 < (k : Int) := by omega
                have z1 : decide (0 < k) = true := decide_eq_true hz
                have z2 : decide ((0 : Int) < (k : Int)) = true := decide_eq_true (by omega)
                have zp : (k : Int) - 1 = (p : Int) := by have := hp.out; omega
                have ip : (p : Int) < (b.on : Int) := by have := hp.out; omega
                have kp : p < b.ox.length := by rw [← onL.out]; have := hp.out; omega
                have kq : p + 1 < b.ox.length := by rw [← onL.out]; have := hp.out; omega
                have hel : b.ox[p + 1] = y := Option.some.inj ((List.getElem?_eq_getElem kq).symm.trans (by rw [← hp.out]; exact Ey.out))
                obtain ⟨b2, e2, _, _, r2⟩ := RQ.out.at_ kp
                rw [Hey.out] at e2
                cases e2
                have q0 := cellD 0 kyr (enc_to (E := EOb) HVy (v := .string y.ob.key) rfl)
                have qc := cellD 3 kbr (enc_to (E := EBk) HVb (v := .slice b.oa b.on b.oc) rfl)
                rw [Hey.out] at qc
                have qp : ∀ j, (wr.drewN j).cell? ⟨bly, p * 5, none⟩ = some (.string (b.ox[p]).ob.key) := fun j => r2 0 _ rfl
                have SL : Op.bytesLess (b.ox[p]).ob.key.toList y.ob.key.toList = true := by
                  have h := srt_two (i := p) (j := p + 1) OKB.out.so (by show p + 1 < (b.ox.map Obx.ob).length; rw [List.length_map]; exact kq) (Nat.lt_succ_self p)
                  have e1 : b.bk.obs = b.ox.map Obx.ob := rfl
                  simp only [e1, List.getElem_map] at h
                  rw [hel] at h
                  exact less_of h
                obtain ⟨np, Hnp⟩ : ∃ s, Hid ((b.ox[p]).ob.key = s) := ⟨(b.ox[p]).ob.key, (rfl : (b.ox[p]).ob.key = (b.ox[p]).ob.key)⟩
                rw [Hnp.out] at qp SL
                clear Hnp
                clear r2 kp kq hel
                try simp only [Act.put]
                go_quiet (fail)
                clear z0 z1 z2 zp q0 qc qp SL
              all_goals
                have BZ : Hid (Below u0.heap.size u0 (wr.drewN nq)) := below_drewN BY.out _
                clear q4 q1 zn
                go_wp2
                go_roundw
                case rel => exact ⟨k + 1, by omega, by go_num, BZ⟩
                case measure => simp [intOf]; omega

        · have HWo : Hid (Below u0.heap.size u0 wr) := HW
          obtain ⟨up, Hup⟩ : ∃ u, Hid (wr = u) := ⟨_, rfl⟩
          rw [Hup.out] at HWo
          rw [Hup.out]
          have ein : ¬ k < b.on := hlt
          have kbr := stay_o HWo kb0
          have BUP : Hid (Below w1.heap.size w1 up) := BU0.out.trans (HWo.out.mono BU0.out.size)
          have BO9 : Hid (BkO K up lo hi b) := BO0.out.keep (fun q _ _ hq => HWo.out.block q hq)
          have qb : up.cell? ⟨gb, 4, none⟩ = some (.slice b.ua b.un b.uc) := cellO 4 kbr (enc_to (E := EBk) HVb rfl)
          have i4 : ¬ ((k : Int) < (b.on : Int)) := by omega
          clear Hup HW HWo ein
          go_upto_region 21 with (fail)
          clear qb i4 hlt
          go_loopw [110] (fun ti wr => ∃ (l : Nat), l ≤ b.un ∧ ti = .int .i64 l ∧ Hid (Below up.heap.size up wr)) (fun ti _ => b.un - (intOf ti).toNat)
          case atStart => exact ⟨0, by omega, rfl, Below.refl _ _⟩
          case round =>
            obtain ⟨l, hl', rfl, HW⟩ := hrel
            by_cases hlt : l < b.un
            · have i3 : (l : Int) < (b.un : Int) := by omega
              have RV : Hid (Rw wr lo hi 77 EUl b.ua b.un b.uc b.ux) := BO9.out.u.keep (fun q _ _ hq => HW.out.block q hq)
              have kk_ : l < b.ux.length := by rw [← RV.out.len]; omega
              obtain ⟨blv, e1, _, _, r1⟩ := RV.out.at_ kk_
              obtain ⟨v, Hv⟩ : ∃ z9, Hid (b.ux[l] = z9) := ⟨b.ux[l], (rfl : b.ux[l] = b.ux[l])⟩
              rw [Hv.out] at r1
              have R1 : Hid (wr.rangeAt blv (l * 5) (EUl.e v)) := r1
              have Mv : Hid (v ∈ b.ux) := List.mem_of_getElem? (by rw [← Hv.out]; exact List.getElem?_eq_getElem kk_)
              have Ev : Hid (b.ux[l]? = some v) := by show _ = _; rw [← Hv.out]; exact List.getElem?_eq_getElem kk_
              rw [e1]
              have Hev : Hid (b.ua = some ⟨blv, 0, none⟩) := e1
              clear r1 kk_ Hv e1
              obtain ⟨Vv, HVv⟩ : ∃ V, Hid (V = (EUl.e v).toArray) := ⟨_, rfl⟩
              have VvS : Hid (Arr 5 Vv) := enc_ar HVv
              have Vvz : (Tryz.prog.info? 77).map (·.size) = some Vv.size := by rw [VvS.out.1]; kernel_rfl
              obtain ⟨x1, Hx1, Z1, K1⟩ := one_bx wr #[.int .i64 0, .int .i64 0, .int .i64 0, .string ⟨#[]⟩, .slice none 0 0] Vv 77
              go_upto_region 23 with (first
                | (refine wpList_ldE (by rfl) (.tmp 113) (by rfl) blv (l * 5) (by rfl) HVv.out R1.out Tryz.underlying77 rfl (by kernel_rfl) ?_)
                | (refine wpList_store_row (by rfl) 77 (.tmp 11) (.tmp 114) (by rfl) wr.heap.size Vv (by rfl) (by rfl) 77 _ Z1.out Vvz (by rw [VvS.out.1]; rfl) VvS.out.2 ?_))
              obtain ⟨gv, Hgv⟩ : ∃ g, Hid (wr.heap.size = g) := ⟨_, rfl⟩
              rw [Hx1.out, Hgv.out]
              have kv : Hid (x1.heap[gv]? = some (.cells Vv 77 (0, 0))) := by rw [← Hgv.out]; exact K1.out.1
              have BX1 : Hid (Below wr.heap.size wr x1) := K1.out.2
              have BX : Hid (Below up.heap.size up x1) := HW.out.trans (BX1.out.mono HW.out.size)
              clear K1 Hx1 Z1 Hgv BX1 R1
              have OKV : Hid (Oku v.ul) := OKB.out.ul _ (List.mem_map_of_mem Mv.out)
              by_cases hz : 0 < l
              case' neg =>
                have z0 : (l : Int) ≤ 0 := by omega
                have z1 : decide (0 < l) = false := decide_eq_false hz
                have z2 : decide ((0 : Int) < (l : Int)) = false := decide_eq_false (by omega)
                try simp only [Act.put]
                go_quiet (fail)
                clear z0 z1 z2
                obtain ⟨x2, Hx2⟩ : ∃ u, Hid (x1.drewN nq = u) := ⟨_, rfl⟩
                have BX2 : Hid (Below up.heap.size up x2) := by rw [← Hx2.out]; exact below_drewN BX.out _
                have kv2 : Hid (x2.heap[gv]? = some (.cells Vv 77 (0, 0))) := by rw [← Hx2.out]; exact kv.out
                rw [Hx2.out]
                clear Hx2
              case' pos =>
                obtain ⟨p, hp⟩ : ∃ p, Hid (l = p + 1) := ⟨l - 1, (by omega : l = l - 1 + 1)⟩
                have z0 : 0 < (l : Int) := by omega
                have z1 : decide (0 < l) = true := decide_eq_true hz
                have z2 : decide ((0 : Int) < (l : Int)) = true := decide_eq_true (by omega)
                have zp : (l : Int) - 1 = (p : Int) := by have := hp.out; omega
                have ip : (p : Int) < (b.un : Int) := by have := hp.out; omega
                have wp9 : IntKind.i64.wrap (p : Int) = (p : Int) := by rw [IntKind.wrap_i64]; omega
                have kp : p < b.ux.length := by rw [← unL.out]; have := hp.out; omega
                have kq : p + 1 < b.ux.length := by rw [← unL.out]; have := hp.out; omega
                have hel : b.ux[p + 1] = v := Option.some.inj ((List.getElem?_eq_getElem kq).symm.trans (by rw [← hp.out]; exact Ev.out))
                obtain ⟨pv, Hpv⟩ : ∃ y, Hid (b.ux[p] = y) := ⟨b.ux[p], (rfl : b.ux[p] = b.ux[p])⟩
                have SL : cmD pv.ul.i0 pv.ul.i1 pv.ul.i2 v.ul.i0 v.ul.i1 v.ul.i2 < 0 := by
                  have h := srt_two (i := p) (j := p + 1) OKB.out.su (by show p + 1 < (b.ux.map Ulx.ul).length; rw [List.length_map]; exact kq) (Nat.lt_succ_self p)
                  have e1 : b.bk.uls = b.ux.map Ulx.ul := rfl
                  simp only [e1, List.getElem_map] at h
                  rw [hel, Hpv.out] at h
                  exact h
                have RQ : Hid (Rw x1 lo hi 77 EUl b.ua b.un b.uc b.ux) := BO9.out.u.keep (fun q _ _ hq => BX.out.block q hq)
                have kbx := stay_o BX kbr
                have RW23 : ∀ W, Below x1.heap.size x1 W → W.rangeAt blv (p * 5) (EUl.e pv) := fun W hW => by
                  obtain ⟨b2, e2, _, _, r2⟩ := (RQ.out.below hW).at_ kp
                  rw [Hev.out] at e2
                  cases e2
                  rw [Hpv.out] at r2
                  exact r2
                have HH : Hid ((∀ W, Below x1.heap.size x1 W → W.cell? ⟨gb, 4, none⟩ = some (.slice (some ⟨blv, 0, none⟩) b.un b.uc)) ∧ (∀ W, Below x1.heap.size x1 W → W.cell? ⟨blv, p * 5, none⟩ = some (.int .i64 pv.ul.i0) ∧ W.cell? ⟨blv, p * 5 + 1, none⟩ = some (.int .i64 pv.ul.i1) ∧ W.cell? ⟨blv, p * 5 + 2, none⟩ = some (.int .i64 pv.ul.i2)) ∧ (∀ W, Below x1.heap.size x1 W → W.cell? ⟨gv, 0, none⟩ = some (.int .i64 v.ul.i0) ∧ W.cell? ⟨gv, 1, none⟩ = some (.int .i64 v.ul.i1) ∧ W.cell? ⟨gv, 2, none⟩ = some (.int .i64 v.ul.i2))) := by
                  refine ⟨fun W hW => ?_, fun W hW => ⟨RW23 W hW 0 _ rfl, RW23 W hW 1 _ rfl, RW23 W hW 2 _ rfl⟩, fun W hW => ⟨cellO 0 (stay_o (show Hid _ from hW) kv) (enc_to (E := EUl) HVv rfl), cellO 1 (stay_o (show Hid _ from hW) kv) (enc_to (E := EUl) HVv rfl), cellO 2 (stay_o (show Hid _ from hW) kv) (enc_to (E := EUl) HVv rfl)⟩⟩
                  have h := cellO 4 (stay_o (show Hid _ from hW) kbx) (enc_to (E := EBk) HVb (v := .slice b.ua b.un b.uc) rfl)
                  rw [Hev.out] at h
                  exact h
                clear RW23 hel kp kq Hpv
                try simp only [Act.put]
                obtain ⟨xd, Hxd⟩ : ∃ u, Hid (x1.drew = u) := ⟨_, rfl⟩
                have BD : Hid (Below x1.heap.size x1 xd) := by rw [← Hxd.out]; exact (Below.refl _ _).drew
                refine Fo.wp_region_seq (C := fun W => Below x1.heap.size x1 W) [(0, false), (1, false), (2, false), (3, false), (4, false), (5, false), (6, false), (7, false), (8, false), (9, false), (10, false), (11, false), (12, true), (13, false), (14, false)] (by kernel_rfl) (by kernel_rfl) (by rw [Hxd.out]; exact BD.out) ?_
                rw [Hxd.out]
                refine Fo.seq_take (o := { dst := some 115, op := Go.Op.move (Go.Operand.tmp 10), type := 3, pos := "law.go:190", after := #[], guard := none }) (v := .int .i64 l) (by kernel_rfl) (fun _ _ _ h => h) (Or.inl ⟨by kernel_rfl, fun W hW => by go_simp⟩) ?_
                simp only [List.getElem_toArray, List.getElem_cons_zero, List.getElem_cons_succ, Act.put, List.setIfInBounds_toArray, List.set_cons_zero, List.set_cons_succ]
                refine Fo.seq_take (o := { dst := some 116, op := Go.Op.binOp Go.BinOp.gtr 3 (Go.Operand.tmp 115) (Go.Operand.const (Go.Value.int Go.IntKind.i64 0)) 3, type := 4, pos := "law.go:190", after := #[{ on := 0, ground := Go.Ground.data }], guard := none }) (v := .bool true) (by kernel_rfl) (fun _ _ _ h => h) (Or.inl ⟨by kernel_rfl, fun W hW => by go_simp⟩) ?_
                simp only [List.getElem_toArray, List.getElem_cons_zero, List.getElem_cons_succ, Act.put, List.setIfInBounds_toArray, List.set_cons_zero, List.set_cons_succ]
                refine Fo.seq_take (o := { dst := some 117, op := Go.Op.move (Go.Operand.tmp 116), type := 4, pos := "law.go:190", after := #[{ on := 1, ground := Go.Ground.data }], guard := none }) (v := .bool true) (by kernel_rfl) (fun _ _ _ h => h) (Or.inl ⟨by kernel_rfl, fun W hW => by go_simp⟩) ?_
                simp only [List.getElem_toArray, List.getElem_cons_zero, List.getElem_cons_succ, Act.put, List.setIfInBounds_toArray, List.set_cons_zero, List.set_cons_succ]
                refine Fo.seq_take (o := { dst := some 118, op := Go.Op.fieldAddr 65 (Go.Operand.tmp 4) 4, type := 0, pos := "law.go:190", after := #[{ on := 2, ground := Go.Ground.guard }], guard := some (2, true) }) (v := .pointer (some ⟨gb, 4, none⟩)) (by kernel_rfl) (fun _ _ _ h => h) (Or.inl ⟨by kernel_rfl, fun W hW => by go_simp⟩) ?_
                simp only [List.getElem_toArray, List.getElem_cons_zero, List.getElem_cons_succ, Act.put, List.setIfInBounds_toArray, List.set_cons_zero, List.set_cons_succ]
                refine Fo.seq_take (o := { dst := some 119, op := Go.Op.load 63 (Go.Operand.tmp 118), type := 63, pos := "law.go:190", after := #[{ on := 3, ground := Go.Ground.data }, { on := 2, ground := Go.Ground.guard }], guard := some (2, true) }) (v := .slice (some ⟨blv, 0, none⟩) b.un b.uc) (by kernel_rfl) (fun _ _ _ h => h) (Or.inl ⟨by kernel_rfl, fun W hW => by have q := HH.out.1 W hW; go_simp⟩) ?_
                simp only [List.getElem_toArray, List.getElem_cons_zero, List.getElem_cons_succ, Act.put, List.setIfInBounds_toArray, List.set_cons_zero, List.set_cons_succ]
                refine Fo.seq_take (o := { dst := some 120, op := Go.Op.move (Go.Operand.tmp 10), type := 3, pos := "law.go:190", after := #[{ on := 2, ground := Go.Ground.guard }], guard := some (2, true) }) (v := .int .i64 l) (by kernel_rfl) (fun _ _ _ h => h) (Or.inl ⟨by kernel_rfl, fun W hW => by go_simp⟩) ?_
                simp only [List.getElem_toArray, List.getElem_cons_zero, List.getElem_cons_succ, Act.put, List.setIfInBounds_toArray, List.set_cons_zero, List.set_cons_succ]
                refine Fo.seq_take (o := { dst := some 121, op := Go.Op.binOp Go.BinOp.sub 3 (Go.Operand.tmp 120) (Go.Operand.const (Go.Value.int Go.IntKind.i64 1)) 3, type := 3, pos := "law.go:190", after := #[{ on := 5, ground := Go.Ground.data }, { on := 2, ground := Go.Ground.guard }], guard := some (2, true) }) (v := .int .i64 p) (by kernel_rfl) (fun _ _ _ h => h) (Or.inl ⟨by kernel_rfl, fun W hW => by go_simp⟩) ?_
                simp only [List.getElem_toArray, List.getElem_cons_zero, List.getElem_cons_succ, Act.put, List.setIfInBounds_toArray, List.set_cons_zero, List.set_cons_succ]
                refine Fo.seq_take (o := { dst := some 122, op := Go.Op.indexAddr 63 (Go.Operand.tmp 119) (Go.Operand.tmp 121), type := 0, pos := "law.go:190", after := #[{ on := 4, ground := Go.Ground.data }, { on := 6, ground := Go.Ground.data }, { on := 2, ground := Go.Ground.guard }], guard := some (2, true) }) (v := .pointer (some ⟨blv, p * 5, none⟩)) (by kernel_rfl) (fun _ _ _ h => h) (Or.inl ⟨by kernel_rfl, fun W hW => by go_simp⟩) ?_
                simp only [List.getElem_toArray, List.getElem_cons_zero, List.getElem_cons_succ, Act.put, List.setIfInBounds_toArray, List.set_cons_zero, List.set_cons_succ]
                refine Fo.seq_take (o := { dst := some 123, op := Go.Op.fieldAddr 77 (Go.Operand.tmp 122) 0, type := 0, pos := "law.go:190", after := #[{ on := 7, ground := Go.Ground.data }, { on := 2, ground := Go.Ground.guard }], guard := some (2, true) }) (v := .pointer (some ⟨blv, p * 5, none⟩)) (by kernel_rfl) (fun _ _ _ h => h) (Or.inl ⟨by kernel_rfl, fun W hW => by go_simp⟩) ?_
                simp only [List.getElem_toArray, List.getElem_cons_zero, List.getElem_cons_succ, Act.put, List.setIfInBounds_toArray, List.set_cons_zero, List.set_cons_succ]
                refine Fo.seq_take (o := { dst := some 124, op := Go.Op.load 24 (Go.Operand.tmp 123), type := 24, pos := "law.go:190", after := #[{ on := 8, ground := Go.Ground.data }, { on := 2, ground := Go.Ground.guard }], guard := some (2, true) }) (v := .agg #[.int .i64 pv.ul.i0, .int .i64 pv.ul.i1, .int .i64 pv.ul.i2]) (by kernel_rfl) (fun _ _ _ h => h) (Or.inl ⟨by kernel_rfl, fun W hW => by obtain ⟨q1, q2, q3⟩ := HH.out.2.1 W hW; go_simp⟩) ?_
                simp only [List.getElem_toArray, List.getElem_cons_zero, List.getElem_cons_succ, Act.put, List.setIfInBounds_toArray, List.set_cons_zero, List.set_cons_succ]
                refine Fo.seq_take (o := { dst := some 125, op := Go.Op.fieldAddr 77 (Go.Operand.tmp 11) 0, type := 0, pos := "law.go:190", after := #[{ on := 2, ground := Go.Ground.guard }], guard := some (2, true) }) (v := .pointer (some ⟨gv, 0, none⟩)) (by kernel_rfl) (fun _ _ _ h => h) (Or.inl ⟨by kernel_rfl, fun W hW => by go_simp⟩) ?_
                simp only [List.getElem_toArray, List.getElem_cons_zero, List.getElem_cons_succ, Act.put, List.setIfInBounds_toArray, List.set_cons_zero, List.set_cons_succ]
                refine Fo.seq_take (o := { dst := some 126, op := Go.Op.load 24 (Go.Operand.tmp 125), type := 24, pos := "law.go:190", after := #[{ on := 10, ground := Go.Ground.data }, { on := 2, ground := Go.Ground.guard }], guard := some (2, true) }) (v := .agg #[.int .i64 v.ul.i0, .int .i64 v.ul.i1, .int .i64 v.ul.i2]) (by kernel_rfl) (fun _ _ _ h => h) (Or.inl ⟨by kernel_rfl, fun W hW => by obtain ⟨q1, q2, q3⟩ := HH.out.2.2 W hW; go_simp⟩) ?_
                simp only [List.getElem_toArray, List.getElem_cons_zero, List.getElem_cons_succ, Act.put, List.setIfInBounds_toArray, List.set_cons_zero, List.set_cons_succ]
                refine Fo.seq_call (o := { dst := some 127, op := Go.Op.call { callee := Go.Callee.value (Go.Operand.func 57), args := #[Go.Operand.tmp 124, Go.Operand.tmp 126], argTypes := #[24, 24] }, type := 4, pos := "law.go:190", after := #[{ on := 9, ground := Go.Ground.data }, { on := 11, ground := Go.Ground.data }, { on := 2, ground := Go.Ground.chain }, { on := 2, ground := Go.Ground.guard }], guard := some (2, true) }) (by kernel_rfl) (fun KK hK => ?_)
                rw [if_pos (by kernel_rfl)]
                go_simp
                go_wp2_with (go_at_call 57; refine (less57 _ _ _ _ _ _ xd).mono ?_; rintro e x3 ⟨rfl, h0⟩; rw [decide_eq_true SL])
                have BD3 : Hid (Below x1.heap.size x1 x3) := BD.out.trans (h0.out.mono BD.out.size)
                refine hK.out _ _ BD3.out ?_
                clear hK KK
                try simp only [List.getElem_toArray, List.getElem_cons_zero, List.getElem_cons_succ, Act.put, List.setIfInBounds_toArray, List.set_cons_zero, List.set_cons_succ]
                refine Fo.seq_take (o := { dst := some 128, op := Go.Op.unOp Go.UnOp.not 4 (Go.Operand.tmp 127), type := 4, pos := "law.go:190", after := #[{ on := 12, ground := Go.Ground.data }, { on := 2, ground := Go.Ground.guard }], guard := some (2, true) }) (v := .bool false) (by kernel_rfl) (fun _ _ _ h => h) (Or.inl ⟨by kernel_rfl, fun W hW => by go_simp⟩) ?_
                simp only [List.getElem_toArray, List.getElem_cons_zero, List.getElem_cons_succ, Act.put, List.setIfInBounds_toArray, List.set_cons_zero, List.set_cons_succ]
                refine Fo.seq_take (o := { dst := some 129, op := Go.Op.pick (Go.Operand.tmp 117) (Go.Operand.tmp 128) (Go.Operand.const (Go.Value.bool false)), type := 4, pos := "law.go:190", after := #[{ on := 2, ground := Go.Ground.data }, { on := 13, ground := Go.Ground.data }], guard := none }) (v := .bool false) (by kernel_rfl) (fun _ _ _ h => h) (Or.inl ⟨by kernel_rfl, fun W hW => by go_simp⟩) ?_
                simp only [List.getElem_toArray, List.getElem_cons_zero, List.getElem_cons_succ, Act.put, List.setIfInBounds_toArray, List.set_cons_zero, List.set_cons_succ]
                unfold Fo.wpSeq
                obtain ⟨x2, Hx2⟩ : ∃ u, Hid (x3 = u) := ⟨_, rfl⟩
                have BX2 : Hid (Below up.heap.size up x2) := by rw [← Hx2.out]; exact BX.out.trans (BD3.out.mono BX.out.size)
                have kv2 : Hid (x2.heap[gv]? = some (.cells Vv 77 (0, 0))) := by rw [← Hx2.out]; exact stay_o BD3 kv
                rw [Hx2.out]
                clear Hx2 z0 z1 z2 zp SL HH BD wp9
              all_goals
                clear hz
                have VO : Hid (UlO K x2 lo hi v) := (BO9.out.uu v Mv.out).keep (fun q _ _ hq => BX2.out.block q hq)
                have vnL : Hid (v.n = v.ul.pts.length) := VO.out.r.len
                have vnK : v.n ≤ 1048576 := Nat.le_trans VO.out.k hK
                have qv : x2.cell? ⟨gv, 4, none⟩ = some (.slice v.a v.n v.c) := cellO 4 kv2 (enc_to (E := EUl) HVv rfl)
                go_upto_region 26 with (fail)
                clear qv
                go_loopw [133] (fun ti wr => ∃ (m : Nat), m ≤ v.n ∧ ti = .int .i64 m ∧ Hid (Below x2.heap.size x2 wr)) (fun ti _ => v.n - (intOf ti).toNat)
                case atStart => exact ⟨0, by omega, rfl, Below.refl _ _⟩
                case round =>
                  obtain ⟨m, hm, rfl, HW⟩ := hrel
                  by_cases hlt : m < v.n
                  · have i3 : (m : Int) < (v.n : Int) := by omega
                    have RP : Hid (Rw wr lo hi 108 EPt v.a v.n v.c v.ul.pts) := VO.out.r.keep (fun q _ _ hq => HW.out.block q hq)
                    have kk_ : m < v.ul.pts.length := by rw [← RP.out.len]; omega
                    obtain ⟨blf, e1, _, _, r1⟩ := RP.out.at_ kk_
                    obtain ⟨f, Hf⟩ : ∃ z9, Hid (v.ul.pts[m] = z9) := ⟨v.ul.pts[m], (rfl : v.ul.pts[m] = v.ul.pts[m])⟩
                    rw [Hf.out] at r1
                    have R1 : Hid (wr.rangeAt blf (m * 6) (EPt.e f)) := r1
                    have Mf : Hid (f ∈ v.ul.pts) := List.mem_of_getElem? (by rw [← Hf.out]; exact List.getElem?_eq_getElem kk_)
                    have Ef : Hid (v.ul.pts[m]? = some f) := by show _ = _; rw [← Hf.out]; exact List.getElem?_eq_getElem kk_
                    rw [e1]
                    have Hef : Hid (v.a = some ⟨blf, 0, none⟩) := e1
                    clear r1 kk_ Hf e1
                    obtain ⟨Vf, HVf⟩ : ∃ V, Hid (V = (EPt.e f).toArray) := ⟨_, rfl⟩
                    have VfS : Hid (Arr 6 Vf) := enc_ar HVf
                    have Vfz : (Tryz.prog.info? 108).map (·.size) = some Vf.size := by rw [VfS.out.1]; kernel_rfl
                    obtain ⟨r1, Hr1, Z1, K1⟩ := one_bx wr #[.int .i64 0, .int .i64 0, .int .i64 0, .int .i64 0, .int .i64 0, .string ⟨#[]⟩] Vf 108
                    go_upto_region 28 with (first
                      | (refine wpList_ldE (by rfl) (.tmp 136) (by rfl) blf (m * 6) (by rfl) HVf.out R1.out Tryz.underlying108 rfl (by kernel_rfl) ?_)
                      | (refine wpList_store_row (by rfl) 108 (.tmp 13) (.tmp 137) (by rfl) wr.heap.size Vf (by rfl) (by rfl) 108 _ Z1.out Vfz (by rw [VfS.out.1]; rfl) VfS.out.2 ?_))
                    obtain ⟨gp, Hgp⟩ : ∃ g, Hid (wr.heap.size = g) := ⟨_, rfl⟩
                    rw [Hr1.out, Hgp.out]
                    have kp : Hid (r1.heap[gp]? = some (.cells Vf 108 (0, 0))) := by rw [← Hgp.out]; exact K1.out.1
                    have BR1 : Hid (Below wr.heap.size wr r1) := K1.out.2
                    have BR : Hid (Below x2.heap.size x2 r1) := HW.out.trans (BR1.out.mono HW.out.size)
                    clear K1 Hr1 Z1 Hgp BR1 R1
                    have NO := OKV.out.no f Mf.out
                    have no1 : decide (f.no < 1) = false := decide_eq_false (by omega)
                    have no2 : decide (16 < f.no) = false := decide_eq_false (by omega)
                    clear NO
                    have q0 := cellD 0 kp (enc_to (E := EPt) HVf (v := .int .i64 f.no) rfl)
                    have kvr := stay_o BR kv2
                    have RQ : Hid (Rw r1 lo hi 108 EPt v.a v.n v.c v.ul.pts) := VO.out.r.keep (fun q _ _ hq => BR.out.block q hq)
                    by_cases hz : 0 < m
                    case' neg =>
                      have z0 : (m : Int) ≤ 0 := by omega
                      have z1 : decide (0 < m) = false := decide_eq_false hz
                      have z2 : decide ((0 : Int) < (m : Int)) = false := decide_eq_false (by omega)
                      try simp only [Act.put]
                      go_quiet (fail)
                      clear z0 z1 z2
                    case' pos =>
                      obtain ⟨p, hp⟩ : ∃ p, Hid (m = p + 1) := ⟨m - 1, (by omega : m = m - 1 + 1)⟩
                      have z0 : 0 < (m : Int) := by omega
                      have z1 : decide (0 < m) = true := decide_eq_true hz
                      have z2 : decide ((0 : Int) < (m : Int)) = true := decide_eq_true (by omega)
                      have zp : (m : Int) - 1 = (p : Int) := by have := hp.out; omega
                      have ip : (p : Int) < (v.n : Int) := by have := hp.out; omega
                      have kp : p < v.ul.pts.length := by rw [← vnL.out]; have := hp.out; omega
                      have kq : p + 1 < v.ul.pts.length := by rw [← vnL.out]; have := hp.out; omega
                      have hel : v.ul.pts[p + 1] = f := Option.some.inj ((List.getElem?_eq_getElem kq).symm.trans (by rw [← hp.out]; exact Ef.out))
                      obtain ⟨b2, e2, _, _, r2⟩ := RQ.out.at_ kp
                      rw [Hef.out] at e2
                      cases e2
                      have qc := cellD 4 kvr (enc_to (E := EUl) HVv (v := .slice v.a v.n v.c) rfl)
                      rw [Hef.out] at qc
                      have qp : ∀ j, (r1.drewN j).cell? ⟨blf, p * 6, none⟩ = some (.int .i64 (v.ul.pts[p]).no) := fun j => r2 0 _ rfl
                      have SL : (v.ul.pts[p]).no < f.no := by
                        have h := srt_two (i := p) (j := p + 1) OKV.out.st kq (Nat.lt_succ_self p)
                        rw [hel] at h
                        exact (cmI_lt _ _).1 h
                      obtain ⟨np, Hnp⟩ : ∃ s, Hid ((v.ul.pts[p]).no = s) := ⟨(v.ul.pts[p]).no, (rfl : (v.ul.pts[p]).no = (v.ul.pts[p]).no)⟩
                      rw [Hnp.out] at qp SL
                      have SM : decide (f.no ≤ np) = false := decide_eq_false (by omega)
                      clear Hnp SL
                      clear r2 kp kq hel
                      try simp only [Act.put]
                      go_quiet (fail)
                      clear z0 z1 z2 zp qc qp SM
                    all_goals
                      have BZ : Hid (Below x2.heap.size x2 (r1.drewN nq)) := below_drewN BR.out _
                      clear q0 no1 no2
                      go_wp2
                      go_roundw
                      case rel => exact ⟨m + 1, by omega, by go_num, BZ⟩
                      case measure => simp [intOf]; omega
                  · have BE : Hid (Below up.heap.size up wr) := BX2.out.trans (HW.out.mono BX2.out.size)
                    have i4 : ¬ ((m : Int) < (v.n : Int)) := by omega
                    go_wp2
                    go_roundw
                    case rel => exact ⟨l + 1, by omega, by go_num, BE⟩
                    case measure => simp [intOf]; omega

            · have BE : Hid (Below w1.heap.size w1 wr) := BUP.out.trans (HW.out.mono BUP.out.size)
              have i4 : ¬ ((l : Int) < (b.un : Int)) := by omega
              go_wp2
              go_roundw
              case rel => exact ⟨i + 1, by omega, by go_num, BE⟩
              case measure => simp [intOf]; omega
end Go.Proofs.YtfabnnbljkkihaaGreatDoor
