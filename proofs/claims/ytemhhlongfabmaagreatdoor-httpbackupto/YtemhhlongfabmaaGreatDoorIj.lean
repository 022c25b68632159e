/- The document's fieldOf. -/
import Derived.Test.YtemhhlongfabmaaGreatDoorIi
import Derived.Test.YtemhhlongfabmaaGreatDoorIh
import Derived.Test.YtemhhlongfabmaaGreatDoorHx
import Derived.Test.YtemhhlongfabmaaGreatDoorIe
namespace Go.Proofs.YtemhhlongfabmaaGreatDoor
open Go.ChangeShapes Go.WideShapes Go.ChangeAt Go.RowKit
set_option maxRecDepth 20000
set_option linter.unusedVariables false
set_option linter.unusedSimpArgs false
def lwN (x : Nat) : Nat := if 65 ≤ x ∧ x ≤ 90 then x + 32 else x
theorem lwB (b : UInt8) : (Lib.lowerB b).toNat = lwN b.toNat := by
  have h : ∀ k, k < 256 → (Lib.lowerB (UInt8.ofNat k)).toNat = lwN k := by decide
  have := h b.toNat (UInt8.toNat_lt b)
  rwa [UInt8.ofNat_toNat] at this
theorem lowA_snoc {s : ByteArray} {i : Nat} (h : i < s.size) : lowA (s.extract 0 (i + 1)) = lowA (s.extract 0 i) ++ spell [lwN (sb s i)] := by
  have h2 : i < s.data.toList.length := by rw [← Lib.size_eq]; exact h
  apply ba_extD
  unfold lowA Lib.toLowerA
  rw [ByteArray.data_append, Array.toList_append, spell_data]
  simp only [ext_list, List.drop_zero, Nat.sub_zero]
  rw [List.take_succ_eq_append_getElem h2, List.map_append, sb_get h2]
  simp only [List.map_cons, List.map_nil]
  congr 2
  apply UInt8.toNat_inj.1
  rw [lwB, UInt8.toNat_ofNat']
  have := UInt8.toNat_lt (Lib.lowerB s.data.toList[i])
  rw [lwB] at this
  omega
theorem lowA_size (s : ByteArray) : (lowA s).size = s.size := by rw [Lib.size_eq, Lib.size_eq s]; simp [lowA, Lib.toLowerA]
theorem nm_is {x : Nat} (h : (65 ≤ x ∧ x ≤ 90) ∨ (97 ≤ x ∧ x ≤ 122) ∨ (48 ≤ x ∧ x ≤ 57) ∨ x = 45) : nmB x = true := by
  unfold nmB grB smB dgB
  simp only [Bool.or_eq_true, decide_eq_true_eq]
  exact h
theorem nm_not {x : Nat} (h : ¬ ((65 ≤ x ∧ x ≤ 90) ∨ (97 ≤ x ∧ x ≤ 122) ∨ (48 ≤ x ∧ x ≤ 57) ∨ x = 45)) : nmB x = false := by
  rw [Bool.eq_false_iff]
  unfold nmB grB smB dgB
  simp only [ne_eq, Bool.or_eq_true, decide_eq_true_eq]
  exact h
theorem vl_is {x : Nat} (h : (32 ≤ x ∧ x ≤ 126) ∨ x = 9) : vlB x = true := decide_eq_true h
theorem vl_not {x : Nat} (h : ¬ ((32 ≤ x ∧ x ≤ 126) ∨ x = 9)) : vlB x = false := decide_eq_false h
theorem ws_is {b : UInt8} (h : b.toNat = 32 ∨ b.toNat = 9) : ws b = true := by
  have e : b = 32 ∨ b = 9 := h.imp (fun h => UInt8.toNat_inj.1 h) (fun h => UInt8.toNat_inj.1 h)
  rcases e with rfl | rfl <;> rfl
theorem ws_not {b : UInt8} (h : ¬ b.toNat = 32) (h2 : ¬ b.toNat = 9) : ws b = false := by
  unfold ws
  simp only [List.contains_cons, List.contains_nil, Bool.or_false]
  rw [u8_beq, u8_beq]
  rw [Bool.or_eq_false_iff]
  exact ⟨decide_eq_false (fun e => h e.symm), decide_eq_false (fun e => h2 e.symm)⟩
set_option maxHeartbeats 16000000 in
theorem fieldOf_n (s : ByteArray) (hs : s.size ≤ 4096) (w : World) : Calls Tryz.prog 33 #[.string s] w fun e w' => FieldEnd (rdL s) e ∧ Hid (Below w.heap.size w w') := by
  have HIX := (show Hid (∀ (s : ByteArray) (i : Nat), i < s.size → ∀ W, (Instr.index 9 (.string s) (.int .i64 (i : Int))).run Tryz.prog W = .ok (.int .u8 (sb s i : Nat)) W) from fun s i h W => sb_ix s i i rfl h W)
  obtain ⟨g, HG⟩ : ∃ q, Hid (w.heap.size = q) := ⟨_, rfl⟩
  obtain ⟨w0, H0⟩ : ∃ w0, Hid (w.alloc (.cells #[.string { data := #[] }, .string { data := #[] }] 41) = w0) := ⟨_, rfl⟩
  have K0 : Hid (Bx w w0 g 41 (aggF ⟨#[]⟩ ⟨#[]⟩)) := by rw [← H0.out, ← HG.out]; exact Bx.new w w 41 _ (Below.refl _ _)
  have E0 : Hid (lowA (s.extract 0 0) = ⟨#[]⟩) := (by apply ba_extD; simp [lowA, Lib.toLowerA, ext_list] : lowA (s.extract 0 0) = ⟨#[]⟩)
  go_enter Tryz.func33, Tryz.ntmps33
  go_upto_region 1 with (fail)
  rw [H0.out, HG.out]
  go_wp2
  go_loopw [4, 5] (fun ti tn wr => ∃ (i : Nat) (nm : ByteArray), i ≤ s.size ∧ ti = .int .i64 (i : Int) ∧ tn = .string nm ∧ Hid (nm = lowA (s.extract 0 i)) ∧ Hid (∀ j, j < i → nmB (sb s j) = true) ∧ Hid (Bx w wr g 41 (aggF ⟨#[]⟩ ⟨#[]⟩))) (fun ti _ _ => s.size - (intOf ti).toNat)
  case atStart => exact ⟨0, _, by omega, rfl, rfl, E0.out.symm, fun j hj => by omega, K0.out⟩
  case round =>
    obtain ⟨i, nm, hi, rfl, rfl, HNM, HN, KR⟩ := hrel
    have nmz : nm.size ≤ 4096 := by rw [HNM.out, lowA_size, ByteArray.size_extract]; omega
    by_cases h1 : i < s.size
    · have i1 : (i : Int) < (s.size : Int) := by omega
      have X0 := HIX.out s i h1
      have SNOC : Hid (lowA (s.extract 0 (i + 1)) = lowA (s.extract 0 i) ++ spell [lwN (sb s i)]) := lowA_snoc h1
      obtain ⟨x, Hx⟩ : ∃ x, Hid (sb s i = x) := ⟨_, rfl⟩
      rw [Hx.out] at X0
      rw [Hx.out] at SNOC
      by_cases x58 : x = 58
      · subst x58
        have NM58 : Hid (rdL s = if 1 ≤ i ∧ gdV (s.extract (i + 1) s.size) = true then some (lowA (s.extract 0 i), triA (s.extract (i + 1) s.size)) else none) := rdL_at h1 Hx.out HN.out
        clear SNOC
        by_cases c0 : i = 0
        · subst c0
          have EV : Hid (rdL s = none) := (by rw [NM58.out, if_neg (fun h => absurd h.1 (by omega))] : rdL s = none)
          have X1 : ∀ W, (Instr.index 9 (.string s) (.int .i64 0)).run Tryz.prog W = .ok (.int .u8 58) W := X0
          have i2 : (0 : Int) < (s.size : Int) := by omega
          obtain ⟨w9, H9⟩ : ∃ w9, Hid (wr.setRow g (aggF ⟨#[]⟩ ⟨#[]⟩) = w9) := ⟨_, rfl⟩
          have K9 : Hid (Bx w w9 g 41 (aggF ⟨#[]⟩ ⟨#[]⟩)) := by rw [← H9.out]; exact KR.out.set _
          go_wp2_with (refine wpList_store_row (by rfl) 41 (.tmp 2) (.tmp 65) (by rfl) g (aggF ⟨#[]⟩ ⟨#[]⟩) (by rfl) (by rfl) 41 _ KR.out.row (sz41 _ _) (by rfl) (one41 _ _) ?_; refine (show _ = w9 from H9.out) ▸ ?_)
          try simp only [Exit.inBlock, Exit.then]
          refine bodyPost_ret (res_row2 (by rfl) (by rfl) K9.out.row und41 (sz41 _ _)) rfl ?_
          rw [EV.out]
          exact ⟨rfl, K9.out.bel⟩
        · have t0 : ((i : Int) == 0) = false := beq_eq_false_iff_ne.2 (by omega)
          have t1 : ((i : Int) == (s.size : Int)) = false := beq_eq_false_iff_ne.2 (by omega)
          have t2 : (0 : Int) ≤ (i : Int) + 1 := by omega
          have t3 : (i : Int) + 1 ≤ (s.size : Int) := by omega
          have t4 : ((i : Int) + 1).toNat = i + 1 := by omega
          have c1 : Hid (1 ≤ i) := (by omega : 1 ≤ i)
          clear c0
          go_upto_region 14 with (fail)
          obtain ⟨V, HV⟩ : ∃ V, Hid (s.extract (i + 1) s.size = V) := ⟨_, rfl⟩
          rw [HV.out]
          rw [HV.out] at NM58
          have vz : V.size ≤ 4096 := by rw [← HV.out, ByteArray.size_extract]; omega
          clear X0 i1 t0 t1 t2 t3 t4
          go_wp2
          go_loopw [8] (fun tj wr => ∃ j : Nat, j ≤ V.size ∧ tj = .int .i64 (j : Int) ∧ Hid (∀ q, q < j → vlB (sb V q) = true) ∧ Hid (Bx w wr g 41 (aggF ⟨#[]⟩ ⟨#[]⟩))) (fun tj _ => V.size - (intOf tj).toNat)
          case atStart => exact ⟨0, by omega, rfl, fun q hq => by omega, KR.out⟩
          case round =>
            obtain ⟨j, hj, rfl, HJ, KR⟩ := hrel
            by_cases j1 : j < V.size
            · have n1 : (j : Int) < (V.size : Int) := by omega
              have Y0 := HIX.out V j j1
              obtain ⟨y, Hy⟩ : ∃ y, Hid (sb V j = y) := ⟨_, rfl⟩
              rw [Hy.out] at Y0
              by_cases y9 : y = 9
              · have q9 : ((y : Int) != 9) = false := by rw [bne_eq_false_iff_eq]; omega
                have NJ : Hid (∀ q, q < j + 1 → vlB (sb V q) = true) := fun q hq => by
                  by_cases e : q = j
                  · rw [e, Hy.out]; exact vl_is (by omega)
                  · exact HJ.out q (by omega)
                go_wp2
                go_roundw
                case rel => exact ⟨j + 1, by omega, by go_num, NJ.out, KR.out⟩
                case measure => simp [intOf]; omega
              · have q9 : ((y : Int) != 9) = true := by rw [bne_iff_ne]; omega
                by_cases y32 : y < 32
                · have q32 : (y : Int) < 32 := by omega
                  have EV : Hid (rdL s = none) := (by rw [NM58.out, if_neg (fun h => by have h2 := evB_false (p := vlB) j1 (by rw [Hy.out]; exact vl_not (by omega)); have h3 : evB vlB V V.size = true := h.2; rw [h2] at h3; cases h3)] : rdL s = none)
                  obtain ⟨w9, H9⟩ : ∃ w9, Hid (wr.setRow g (aggF ⟨#[]⟩ ⟨#[]⟩) = w9) := ⟨_, rfl⟩
                  have K9 : Hid (Bx w w9 g 41 (aggF ⟨#[]⟩ ⟨#[]⟩)) := by rw [← H9.out]; exact KR.out.set _
                  go_wp2_with (refine wpList_store_row (by rfl) 41 (.tmp 2) (.tmp 92) (by rfl) g (aggF ⟨#[]⟩ ⟨#[]⟩) (by rfl) (by rfl) 41 _ KR.out.row (sz41 _ _) (by rfl) (one41 _ _) ?_; refine (show _ = w9 from H9.out) ▸ ?_)
                  try simp only [Exit.inBlock, Exit.then]
                  refine bodyPost_ret (res_row2 (by rfl) (by rfl) K9.out.row und41 (sz41 _ _)) rfl ?_
                  rw [EV.out]
                  exact ⟨rfl, K9.out.bel⟩
                · have q32 : ¬ ((y : Int) < 32) := by omega
                  by_cases y126 : 126 < y
                  · have q126 : (126 : Int) < (y : Int) := by omega
                    have EV : Hid (rdL s = none) := (by rw [NM58.out, if_neg (fun h => by have h2 := evB_false (p := vlB) j1 (by rw [Hy.out]; exact vl_not (by omega)); have h3 : evB vlB V V.size = true := h.2; rw [h2] at h3; cases h3)] : rdL s = none)
                    obtain ⟨w9, H9⟩ : ∃ w9, Hid (wr.setRow g (aggF ⟨#[]⟩ ⟨#[]⟩) = w9) := ⟨_, rfl⟩
                    have K9 : Hid (Bx w w9 g 41 (aggF ⟨#[]⟩ ⟨#[]⟩)) := by rw [← H9.out]; exact KR.out.set _
                    go_wp2_with (refine wpList_store_row (by rfl) 41 (.tmp 2) (.tmp 92) (by rfl) g (aggF ⟨#[]⟩ ⟨#[]⟩) (by rfl) (by rfl) 41 _ KR.out.row (sz41 _ _) (by rfl) (one41 _ _) ?_; refine (show _ = w9 from H9.out) ▸ ?_)
                    try simp only [Exit.inBlock, Exit.then]
                    refine bodyPost_ret (res_row2 (by rfl) (by rfl) K9.out.row und41 (sz41 _ _)) rfl ?_
                    rw [EV.out]
                    exact ⟨rfl, K9.out.bel⟩
                  · have q126 : ¬ ((126 : Int) < (y : Int)) := by omega
                    have NJ : Hid (∀ q, q < j + 1 → vlB (sb V q) = true) := fun q hq => by
                      by_cases e : q = j
                      · rw [e, Hy.out]; exact vl_is (by omega)
                      · exact HJ.out q (by omega)
                    go_wp2
                    go_roundw
                    case rel => exact ⟨j + 1, by omega, by go_num, NJ.out, KR.out⟩
                    case measure => simp [intOf]; omega
            · have n1 : ¬ ((j : Int) < (V.size : Int)) := by omega
              have GV : Hid (gdV V = true) := ((evB_iff vlB V V.size).2 (fun q hq => HJ.out q (by omega)) : gdV V = true)
              have EVV : Hid (rdL s = some (lowA (s.extract 0 i), triA V)) := (by rw [NM58.out, if_pos ⟨c1.out, GV.out⟩] : rdL s = some (lowA (s.extract 0 i), triA V))
              go_upto_region 19 with (fail)
              clear n1 hj
              go_wp2
              go_loopw [7] (fun tv wr => ∃ (v : ByteArray) (A : List UInt8), tv = .string v ∧ v.size ≤ V.size ∧ Hid (V.data.toList = A ++ v.data.toList) ∧ Hid (∀ b ∈ A, ws b = true) ∧ Hid (Bx w wr g 41 (aggF ⟨#[]⟩ ⟨#[]⟩))) (fun tv _ => match tv with | .string v => v.size | _ => 0)
              case atStart => exact ⟨V, [], rfl, Nat.le_refl _, rfl, fun b hb => (by cases hb), KR.out⟩
              case round =>
                obtain ⟨v, A, rfl, vV, HV3, HA, KR⟩ := hrel
                by_cases z0 : v.size = 0
                · have n0 : ¬ ((0 : Int) < (v.size : Int)) := by omega
                  have HHd : Hid (∀ b, v.data.toList.head? = some b → ws b = false) := fun b hb => by
                    rw [List.eq_nil_of_length_eq_zero ((Lib.size_eq v).symm.trans z0)] at hb
                    cases hb
                  clear z0
                  go_upto_region 21 with (fail)
                  clear n0
                  go_wp2
                  go_loopw [7] (fun tv wr => ∃ (v : ByteArray) (B : List UInt8), tv = .string v ∧ v.size ≤ V.size ∧ Hid (V.data.toList = A ++ v.data.toList ++ B) ∧ Hid (∀ b ∈ B, ws b = true) ∧ Hid (∀ b, v.data.toList.head? = some b → ws b = false) ∧ Hid (Bx w wr g 41 (aggF ⟨#[]⟩ ⟨#[]⟩))) (fun tv _ => match tv with | .string v => v.size | _ => 0)
                  case atStart => exact ⟨v, [], rfl, vV, by rw [List.append_nil]; exact HV3.out, fun b hb => (by cases hb), HHd.out, KR.out⟩
                  case round =>
                    clear vV HV3 HHd
                    obtain ⟨v, B, rfl, vV, HV4, HBw, HHd, KR⟩ := hrel
                    by_cases z0 : v.size = 0
                    · have n0 : ¬ ((0 : Int) < (v.size : Int)) := by omega
                      have HLs : Hid (∀ b, v.data.toList.getLast? = some b → ws b = false) := fun b hb => by
                        rw [List.eq_nil_of_length_eq_zero ((Lib.size_eq v).symm.trans z0)] at hb
                        cases hb
                      clear z0
                      have TR : Hid (triA V = v) := by
                        have h := trim_eq (A := A) (M := v.data.toList) (B := B) HA.out HBw.out HHd.out HLs.out
                        have h2 : triA V = v := by
                          apply ba_extD
                          unfold triA
                          rw [HV4.out, h]
                        exact h2
                      have EV : Hid (rdL s = some (nm, v)) := (by rw [EVV.out, TR.out, ← HNM.out] : rdL s = some (nm, v))
                      obtain ⟨w9, H9⟩ : ∃ w9, Hid (wr.setRow g (aggF nm v) = w9) := ⟨_, rfl⟩
                      have K9 : Hid (Bx w w9 g 41 (aggF nm v)) := by rw [← H9.out]; exact KR.out.set _
                      go_wp2_with (refine wpList_store_row (by rfl) 41 (.tmp 2) (.tmp 134) (by rfl) g (aggF nm v) (by rfl) (by rfl) 41 _ KR.out.row (sz41 _ _) (by rfl) (one41 _ _) ?_; refine (show _ = w9 from H9.out) ▸ ?_)
                      try simp only [Exit.inBlock, Exit.then]
                      refine bodyPost_ret (res_row2 (by rfl) (by rfl) K9.out.row und41 (sz41 _ _)) rfl ?_
                      rw [EV.out]
                      exact ⟨rfl, K9.out.bel⟩
                    · have n0 : (0 : Int) < (v.size : Int) := by omega
                      obtain ⟨y, Hy⟩ : ∃ y, Hid (sb v (v.size - 1) = y) := ⟨_, rfl⟩
                      have Y0 : ∀ W, (Instr.index 9 (.string v) (.int .i64 ((v.size : Int) - 1))).run Tryz.prog W = .ok (.int .u8 (y : Nat)) W := fun W => by
                        have h := sb_ix v (v.size - 1) ((v.size : Int) - 1) (by omega) (by omega) W
                        rw [Hy.out] at h
                        exact h
                      have k4 : (0 : Int) ≤ (v.size : Int) - 1 := by omega
                      have k5 : ((v.size : Int) - 1).toNat = v.size - 1 := by omega
                      have k6 : (v.size : Int) - 1 ≤ (v.size : Int) := by omega
                      by_cases y32 : y = 32
                      · have q32 : ((y : Int) == 32) = true := beq_iff_eq.2 (by omega)
                        have NB : Hid (∀ b ∈ v.data.toList[v.size - 1]'(by rw [← Lib.size_eq]; omega) :: B, ws b = true) := fun b hb => by
                          rcases List.mem_cons.1 hb with rfl | hb
                          · exact ws_is (by rw [← sb_get, Hy.out]; omega)
                          · exact HBw.out b hb
                        have NV : Hid (V.data.toList = A ++ (v.extract 0 (v.size - 1)).data.toList ++ (v.data.toList[v.size - 1]'(by rw [← Lib.size_eq]; omega) :: B)) := by
                          have hk : v.size - 1 < v.data.toList.length := by rw [← Lib.size_eq]; omega
                          have e : v.data.toList = v.data.toList.take (v.size - 1) ++ [v.data.toList[v.size - 1]'hk] := by
                            rw [← List.take_succ_eq_append_getElem hk, List.take_of_length_le (by rw [← Lib.size_eq]; omega)]
                          have h : V.data.toList = A ++ v.data.toList ++ B := HV4.out
                          have h2 : V.data.toList = A ++ (v.extract 0 (v.size - 1)).data.toList ++ (v.data.toList[v.size - 1]'hk :: B) := by
                            rw [h, ext_list, List.drop_zero, Nat.sub_zero]
                            conv => lhs; rw [e]
                            simp
                          exact h2
                        have NH : Hid (∀ b, (v.extract 0 (v.size - 1)).data.toList.head? = some b → ws b = false) := fun b hb => by
                          rw [ext_list, List.drop_zero, Nat.sub_zero] at hb
                          refine HHd.out b ?_
                          rw [List.head?_eq_getElem?] at hb ⊢
                          rw [List.getElem?_take] at hb
                          split at hb
                          · exact hb
                          · cases hb
                        have NZ : (v.extract 0 (v.size - 1)).size ≤ V.size := by rw [ByteArray.size_extract]; omega
                        have NM : (v.extract 0 (v.size - 1)).size < v.size := by rw [ByteArray.size_extract]; omega
                        go_wp2
                        go_roundw
                        case rel => exact ⟨v.extract 0 (v.size - 1), _, rfl, NZ, NV.out, NB.out, NH.out, KR.out⟩
                        case measure => exact NM
                      · have q32 : ((y : Int) == 32) = false := beq_eq_false_iff_ne.2 (by omega)
                        by_cases y9 : y = 9
                        · have q9 : ((y : Int) == 9) = true := beq_iff_eq.2 (by omega)
                          have NB : Hid (∀ b ∈ v.data.toList[v.size - 1]'(by rw [← Lib.size_eq]; omega) :: B, ws b = true) := fun b hb => by
                            rcases List.mem_cons.1 hb with rfl | hb
                            · exact ws_is (by rw [← sb_get, Hy.out]; omega)
                            · exact HBw.out b hb
                          have NV : Hid (V.data.toList = A ++ (v.extract 0 (v.size - 1)).data.toList ++ (v.data.toList[v.size - 1]'(by rw [← Lib.size_eq]; omega) :: B)) := by
                            have hk : v.size - 1 < v.data.toList.length := by rw [← Lib.size_eq]; omega
                            have e : v.data.toList = v.data.toList.take (v.size - 1) ++ [v.data.toList[v.size - 1]'hk] := by
                              rw [← List.take_succ_eq_append_getElem hk, List.take_of_length_le (by rw [← Lib.size_eq]; omega)]
                            have h : V.data.toList = A ++ v.data.toList ++ B := HV4.out
                            have h2 : V.data.toList = A ++ (v.extract 0 (v.size - 1)).data.toList ++ (v.data.toList[v.size - 1]'hk :: B) := by
                              rw [h, ext_list, List.drop_zero, Nat.sub_zero]
                              conv => lhs; rw [e]
                              simp
                            exact h2
                          have NH : Hid (∀ b, (v.extract 0 (v.size - 1)).data.toList.head? = some b → ws b = false) := fun b hb => by
                            rw [ext_list, List.drop_zero, Nat.sub_zero] at hb
                            refine HHd.out b ?_
                            rw [List.head?_eq_getElem?] at hb ⊢
                            rw [List.getElem?_take] at hb
                            split at hb
                            · exact hb
                            · cases hb
                          have NZ : (v.extract 0 (v.size - 1)).size ≤ V.size := by rw [ByteArray.size_extract]; omega
                          have NM : (v.extract 0 (v.size - 1)).size < v.size := by rw [ByteArray.size_extract]; omega
                          go_wp2
                          go_roundw
                          case rel => exact ⟨v.extract 0 (v.size - 1), _, rfl, NZ, NV.out, NB.out, NH.out, KR.out⟩
                          case measure => exact NM
                        · have q9 : ((y : Int) == 9) = false := beq_eq_false_iff_ne.2 (by omega)
                          have HLs : Hid (∀ b, v.data.toList.getLast? = some b → ws b = false) := fun b hb => by
                            have hk : v.size - 1 < v.data.toList.length := by rw [← Lib.size_eq]; omega
                            rw [List.getLast?_eq_getElem?, ← Lib.size_eq, List.getElem?_eq_getElem hk] at hb
                            obtain rfl := Option.some.inj hb
                            have e := sb_get hk
                            rw [Hy.out] at e
                            exact ws_not (by rw [← e]; exact y32) (by rw [← e]; exact y9)
                          clear y32 y9
                          have TR : Hid (triA V = v) := by
                            have h := trim_eq (A := A) (M := v.data.toList) (B := B) HA.out HBw.out HHd.out HLs.out
                            have h2 : triA V = v := by
                              apply ba_extD
                              unfold triA
                              rw [HV4.out, h]
                            exact h2
                          have EV : Hid (rdL s = some (nm, v)) := (by rw [EVV.out, TR.out, ← HNM.out] : rdL s = some (nm, v))
                          obtain ⟨w9, H9⟩ : ∃ w9, Hid (wr.setRow g (aggF nm v) = w9) := ⟨_, rfl⟩
                          have K9 : Hid (Bx w w9 g 41 (aggF nm v)) := by rw [← H9.out]; exact KR.out.set _
                          go_wp2_with (refine wpList_store_row (by rfl) 41 (.tmp 2) (.tmp 134) (by rfl) g (aggF nm v) (by rfl) (by rfl) 41 _ KR.out.row (sz41 _ _) (by rfl) (one41 _ _) ?_; refine (show _ = w9 from H9.out) ▸ ?_)
                          try simp only [Exit.inBlock, Exit.then]
                          refine bodyPost_ret (res_row2 (by rfl) (by rfl) K9.out.row und41 (sz41 _ _)) rfl ?_
                          rw [EV.out]
                          exact ⟨rfl, K9.out.bel⟩
                · have n0 : (0 : Int) < (v.size : Int) := by omega
                  obtain ⟨y, Hy⟩ : ∃ y, Hid (sb v 0 = y) := ⟨_, rfl⟩
                  have Y0 : ∀ W, (Instr.index 9 (.string v) (.int .i64 0)).run Tryz.prog W = .ok (.int .u8 (y : Nat)) W := fun W => by
                    have h := sb_ix v 0 0 rfl (by omega) W
                    rw [Hy.out] at h
                    exact h
                  have k1 : (1 : Int) ≤ (v.size : Int) := by omega
                  by_cases y32 : y = 32
                  · have q32 : ((y : Int) == 32) = true := beq_iff_eq.2 (by omega)
                    have NA : Hid (∀ b ∈ A ++ [v.data.toList[0]'(by rw [← Lib.size_eq]; omega)], ws b = true) := fun b hb => by
                      rcases List.mem_append.1 hb with hb | hb
                      · exact HA.out b hb
                      · rw [List.mem_singleton] at hb
                        rw [hb]
                        exact ws_is (by rw [← sb_get, Hy.out]; omega)
                    have NV : Hid (V.data.toList = (A ++ [v.data.toList[0]'(by rw [← Lib.size_eq]; omega)]) ++ (v.extract 1 v.size).data.toList) := by
                      have hk : 0 < v.data.toList.length := by rw [← Lib.size_eq]; omega
                      have h2 : V.data.toList = (A ++ [v.data.toList[0]'hk]) ++ (v.extract 1 v.size).data.toList := by
                        rw [HV3.out, Lib.extract_to_end]
                        conv => lhs; rw [← List.drop_zero (l := v.data.toList), List.drop_eq_getElem_cons hk]
                        simp
                      exact h2
                    have NZ : (v.extract 1 v.size).size ≤ V.size := by rw [ByteArray.size_extract]; omega
                    have NM : (v.extract 1 v.size).size < v.size := by rw [ByteArray.size_extract]; omega
                    go_wp2
                    go_roundw
                    case rel => exact ⟨v.extract 1 v.size, _, rfl, NZ, NV.out, NA.out, KR.out⟩
                    case measure => exact NM
                  · have q32 : ((y : Int) == 32) = false := beq_eq_false_iff_ne.2 (by omega)
                    by_cases y9 : y = 9
                    · have q9 : ((y : Int) == 9) = true := beq_iff_eq.2 (by omega)
                      have NA : Hid (∀ b ∈ A ++ [v.data.toList[0]'(by rw [← Lib.size_eq]; omega)], ws b = true) := fun b hb => by
                        rcases List.mem_append.1 hb with hb | hb
                        · exact HA.out b hb
                        · rw [List.mem_singleton] at hb
                          rw [hb]
                          exact ws_is (by rw [← sb_get, Hy.out]; omega)
                      have NV : Hid (V.data.toList = (A ++ [v.data.toList[0]'(by rw [← Lib.size_eq]; omega)]) ++ (v.extract 1 v.size).data.toList) := by
                        have hk : 0 < v.data.toList.length := by rw [← Lib.size_eq]; omega
                        have h2 : V.data.toList = (A ++ [v.data.toList[0]'hk]) ++ (v.extract 1 v.size).data.toList := by
                          rw [HV3.out, Lib.extract_to_end]
                          conv => lhs; rw [← List.drop_zero (l := v.data.toList), List.drop_eq_getElem_cons hk]
                          simp
                        exact h2
                      have NZ : (v.extract 1 v.size).size ≤ V.size := by rw [ByteArray.size_extract]; omega
                      have NM : (v.extract 1 v.size).size < v.size := by rw [ByteArray.size_extract]; omega
                      go_wp2
                      go_roundw
                      case rel => exact ⟨v.extract 1 v.size, _, rfl, NZ, NV.out, NA.out, KR.out⟩
                      case measure => exact NM
                    · have q9 : ((y : Int) == 9) = false := beq_eq_false_iff_ne.2 (by omega)
                      have HHd : Hid (∀ b, v.data.toList.head? = some b → ws b = false) := fun b hb => by
                        have hk : 0 < v.data.toList.length := by rw [← Lib.size_eq]; omega
                        rw [List.head?_eq_getElem?, List.getElem?_eq_getElem hk] at hb
                        obtain rfl := Option.some.inj hb
                        have e := sb_get hk
                        rw [Hy.out] at e
                        exact ws_not (by rw [← e]; exact y32) (by rw [← e]; exact y9)
                      clear y32 y9
                      go_upto_region 21 with (fail)
                      clear n0 Y0 k1 q32 q9
                      go_wp2
                      go_loopw [7] (fun tv wr => ∃ (v : ByteArray) (B : List UInt8), tv = .string v ∧ v.size ≤ V.size ∧ Hid (V.data.toList = A ++ v.data.toList ++ B) ∧ Hid (∀ b ∈ B, ws b = true) ∧ Hid (∀ b, v.data.toList.head? = some b → ws b = false) ∧ Hid (Bx w wr g 41 (aggF ⟨#[]⟩ ⟨#[]⟩))) (fun tv _ => match tv with | .string v => v.size | _ => 0)
                      case atStart => exact ⟨v, [], rfl, vV, by rw [List.append_nil]; exact HV3.out, fun b hb => (by cases hb), HHd.out, KR.out⟩
                      case round =>
                        clear vV HV3 HHd
                        obtain ⟨v, B, rfl, vV, HV4, HBw, HHd, KR⟩ := hrel
                        by_cases z0 : v.size = 0
                        · have n0 : ¬ ((0 : Int) < (v.size : Int)) := by omega
                          have HLs : Hid (∀ b, v.data.toList.getLast? = some b → ws b = false) := fun b hb => by
                            rw [List.eq_nil_of_length_eq_zero ((Lib.size_eq v).symm.trans z0)] at hb
                            cases hb
                          clear z0
                          have TR : Hid (triA V = v) := by
                            have h := trim_eq (A := A) (M := v.data.toList) (B := B) HA.out HBw.out HHd.out HLs.out
                            have h2 : triA V = v := by
                              apply ba_extD
                              unfold triA
                              rw [HV4.out, h]
                            exact h2
                          have EV : Hid (rdL s = some (nm, v)) := (by rw [EVV.out, TR.out, ← HNM.out] : rdL s = some (nm, v))
                          obtain ⟨w9, H9⟩ : ∃ w9, Hid (wr.setRow g (aggF nm v) = w9) := ⟨_, rfl⟩
                          have K9 : Hid (Bx w w9 g 41 (aggF nm v)) := by rw [← H9.out]; exact KR.out.set _
                          go_wp2_with (refine wpList_store_row (by rfl) 41 (.tmp 2) (.tmp 134) (by rfl) g (aggF nm v) (by rfl) (by rfl) 41 _ KR.out.row (sz41 _ _) (by rfl) (one41 _ _) ?_; refine (show _ = w9 from H9.out) ▸ ?_)
                          try simp only [Exit.inBlock, Exit.then]
                          refine bodyPost_ret (res_row2 (by rfl) (by rfl) K9.out.row und41 (sz41 _ _)) rfl ?_
                          rw [EV.out]
                          exact ⟨rfl, K9.out.bel⟩
                        · have n0 : (0 : Int) < (v.size : Int) := by omega
                          obtain ⟨y, Hy⟩ : ∃ y, Hid (sb v (v.size - 1) = y) := ⟨_, rfl⟩
                          have Y0 : ∀ W, (Instr.index 9 (.string v) (.int .i64 ((v.size : Int) - 1))).run Tryz.prog W = .ok (.int .u8 (y : Nat)) W := fun W => by
                            have h := sb_ix v (v.size - 1) ((v.size : Int) - 1) (by omega) (by omega) W
                            rw [Hy.out] at h
                            exact h
                          have k4 : (0 : Int) ≤ (v.size : Int) - 1 := by omega
                          have k5 : ((v.size : Int) - 1).toNat = v.size - 1 := by omega
                          have k6 : (v.size : Int) - 1 ≤ (v.size : Int) := by omega
                          by_cases y32 : y = 32
                          · have q32 : ((y : Int) == 32) = true := beq_iff_eq.2 (by omega)
                            have NB : Hid (∀ b ∈ v.data.toList[v.size - 1]'(by rw [← Lib.size_eq]; omega) :: B, ws b = true) := fun b hb => by
                              rcases List.mem_cons.1 hb with rfl | hb
                              · exact ws_is (by rw [← sb_get, Hy.out]; omega)
                              · exact HBw.out b hb
                            have NV : Hid (V.data.toList = A ++ (v.extract 0 (v.size - 1)).data.toList ++ (v.data.toList[v.size - 1]'(by rw [← Lib.size_eq]; omega) :: B)) := by
                              have hk : v.size - 1 < v.data.toList.length := by rw [← Lib.size_eq]; omega
                              have e : v.data.toList = v.data.toList.take (v.size - 1) ++ [v.data.toList[v.size - 1]'hk] := by
                                rw [← List.take_succ_eq_append_getElem hk, List.take_of_length_le (by rw [← Lib.size_eq]; omega)]
                              have h : V.data.toList = A ++ v.data.toList ++ B := HV4.out
                              have h2 : V.data.toList = A ++ (v.extract 0 (v.size - 1)).data.toList ++ (v.data.toList[v.size - 1]'hk :: B) := by
                                rw [h, ext_list, List.drop_zero, Nat.sub_zero]
                                conv => lhs; rw [e]
                                simp
                              exact h2
                            have NH : Hid (∀ b, (v.extract 0 (v.size - 1)).data.toList.head? = some b → ws b = false) := fun b hb => by
                              rw [ext_list, List.drop_zero, Nat.sub_zero] at hb
                              refine HHd.out b ?_
                              rw [List.head?_eq_getElem?] at hb ⊢
                              rw [List.getElem?_take] at hb
                              split at hb
                              · exact hb
                              · cases hb
                            have NZ : (v.extract 0 (v.size - 1)).size ≤ V.size := by rw [ByteArray.size_extract]; omega
                            have NM : (v.extract 0 (v.size - 1)).size < v.size := by rw [ByteArray.size_extract]; omega
                            go_wp2
                            go_roundw
                            case rel => exact ⟨v.extract 0 (v.size - 1), _, rfl, NZ, NV.out, NB.out, NH.out, KR.out⟩
                            case measure => exact NM
                          · have q32 : ((y : Int) == 32) = false := beq_eq_false_iff_ne.2 (by omega)
                            by_cases y9 : y = 9
                            · have q9 : ((y : Int) == 9) = true := beq_iff_eq.2 (by omega)
                              have NB : Hid (∀ b ∈ v.data.toList[v.size - 1]'(by rw [← Lib.size_eq]; omega) :: B, ws b = true) := fun b hb => by
                                rcases List.mem_cons.1 hb with rfl | hb
                                · exact ws_is (by rw [← sb_get, Hy.out]; omega)
                                · exact HBw.out b hb
                              have NV : Hid (V.data.toList = A ++ (v.extract 0 (v.size - 1)).data.toList ++ (v.data.toList[v.size - 1]'(by rw [← Lib.size_eq]; omega) :: B)) := by
                                have hk : v.size - 1 < v.data.toList.length := by rw [← Lib.size_eq]; omega
                                have e : v.data.toList = v.data.toList.take (v.size - 1) ++ [v.data.toList[v.size - 1]'hk] := by
                                  rw [← List.take_succ_eq_append_getElem hk, List.take_of_length_le (by rw [← Lib.size_eq]; omega)]
                                have h : V.data.toList = A ++ v.data.toList ++ B := HV4.out
                                have h2 : V.data.toList = A ++ (v.extract 0 (v.size - 1)).data.toList ++ (v.data.toList[v.size - 1]'hk :: B) := by
                                  rw [h, ext_list, List.drop_zero, Nat.sub_zero]
                                  conv => lhs; rw [e]
                                  simp
                                exact h2
                              have NH : Hid (∀ b, (v.extract 0 (v.size - 1)).data.toList.head? = some b → ws b = false) := fun b hb => by
                                rw [ext_list, List.drop_zero, Nat.sub_zero] at hb
                                refine HHd.out b ?_
                                rw [List.head?_eq_getElem?] at hb ⊢
                                rw [List.getElem?_take] at hb
                                split at hb
                                · exact hb
                                · cases hb
                              have NZ : (v.extract 0 (v.size - 1)).size ≤ V.size := by rw [ByteArray.size_extract]; omega
                              have NM : (v.extract 0 (v.size - 1)).size < v.size := by rw [ByteArray.size_extract]; omega
                              go_wp2
                              go_roundw
                              case rel => exact ⟨v.extract 0 (v.size - 1), _, rfl, NZ, NV.out, NB.out, NH.out, KR.out⟩
                              case measure => exact NM
                            · have q9 : ((y : Int) == 9) = false := beq_eq_false_iff_ne.2 (by omega)
                              have HLs : Hid (∀ b, v.data.toList.getLast? = some b → ws b = false) := fun b hb => by
                                have hk : v.size - 1 < v.data.toList.length := by rw [← Lib.size_eq]; omega
                                rw [List.getLast?_eq_getElem?, ← Lib.size_eq, List.getElem?_eq_getElem hk] at hb
                                obtain rfl := Option.some.inj hb
                                have e := sb_get hk
                                rw [Hy.out] at e
                                exact ws_not (by rw [← e]; exact y32) (by rw [← e]; exact y9)
                              clear y32 y9
                              have TR : Hid (triA V = v) := by
                                have h := trim_eq (A := A) (M := v.data.toList) (B := B) HA.out HBw.out HHd.out HLs.out
                                have h2 : triA V = v := by
                                  apply ba_extD
                                  unfold triA
                                  rw [HV4.out, h]
                                exact h2
                              have EV : Hid (rdL s = some (nm, v)) := (by rw [EVV.out, TR.out, ← HNM.out] : rdL s = some (nm, v))
                              obtain ⟨w9, H9⟩ : ∃ w9, Hid (wr.setRow g (aggF nm v) = w9) := ⟨_, rfl⟩
                              have K9 : Hid (Bx w w9 g 41 (aggF nm v)) := by rw [← H9.out]; exact KR.out.set _
                              go_wp2_with (refine wpList_store_row (by rfl) 41 (.tmp 2) (.tmp 134) (by rfl) g (aggF nm v) (by rfl) (by rfl) 41 _ KR.out.row (sz41 _ _) (by rfl) (one41 _ _) ?_; refine (show _ = w9 from H9.out) ▸ ?_)
                              try simp only [Exit.inBlock, Exit.then]
                              refine bodyPost_ret (res_row2 (by rfl) (by rfl) K9.out.row und41 (sz41 _ _)) rfl ?_
                              rw [EV.out]
                              exact ⟨rfl, K9.out.bel⟩
      · have n58 : ¬ ((x : Int) = 58) := by omega
        have XB : Hid (sb s i ≠ 58) := fun e => x58 (Hx.out.symm.trans e)
        clear x58
        by_cases c65 : 65 ≤ x
        · by_cases c90 : x ≤ 90
          · have t90 : (x : Int) ≤ 90 := by omega
            have t65 : (65 : Int) ≤ (x : Int) := by omega
            have u1 : (97 : Int) ≤ (x : Int) + 32 := by omega
            have u2 : (x : Int) + 32 ≤ 122 := by omega
            have NX : Hid (∀ j, j < i + 1 → nmB (sb s j) = true) := fun j hj => by
              by_cases e : j = i
              · rw [e, Hx.out]; exact nm_is (by omega)
              · exact HN.out j (by omega)
            have x9 : x + 32 < 256 := by omega
            have LW : Hid (lwN x = x + 32) := (by unfold lwN; first | rw [if_pos (by omega)] | rw [if_neg (by omega)] : lwN x = x + 32)
            have NM2 : Hid (nm ++ spell [x + 32] = lowA (s.extract 0 (i + 1))) := (by rw [SNOC.out, HNM.out, LW.out] : nm ++ spell [x + 32] = lowA (s.extract 0 (i + 1)))
            obtain ⟨wa, HA⟩ : ∃ wa, Hid (wr.alloc (.cells #[.int .u8 ((x : Int) + 32)] 5) = wa) := ⟨_, rfl⟩
            have KA : Hid (Bx w wa g 41 (aggF ⟨#[]⟩ ⟨#[]⟩)) := by rw [← HA.out]; exact KR.out.below (alloc1 _ _)
            have SA : Hid (Sln wa (some ⟨wr.heap.size, 0, none⟩) 1 [x + 32]) := one_conv (w := wr) x9 (by first | exact HA | (rw [show ((x + 32 : Nat) : Int) = ((x : Int) + 32) by omega]; exact HA))
            have CV := conv_n (k := 1) SA
            have AD := addS nm (spell [x + 32]) (by rw [spell_sz]; exact (by omega : nm.size + 1 ≤ 9223372036854775807))
            clear SNOC
            go_wp2_with (rw [HA.out])
            go_roundw
            case rel => exact ⟨i + 1, nm ++ spell [x + 32], by omega, by go_num, rfl, NM2.out, NX.out, KA.out⟩
            case measure => simp [intOf]; omega
          · have t90 : ¬ ((x : Int) ≤ 90) := by omega
            have t65 : (65 : Int) ≤ (x : Int) := by omega
            by_cases c97 : 97 ≤ x
            · have t97 : (97 : Int) ≤ (x : Int) := by omega
              by_cases c122 : x ≤ 122
              · have t122 : (x : Int) ≤ 122 := by omega
                have NX : Hid (∀ j, j < i + 1 → nmB (sb s j) = true) := fun j hj => by
                  by_cases e : j = i
                  · rw [e, Hx.out]; exact nm_is (by omega)
                  · exact HN.out j (by omega)
                have x9 : x < 256 := by omega
                have LW : Hid (lwN x = x) := (by unfold lwN; first | rw [if_pos (by omega)] | rw [if_neg (by omega)] : lwN x = x)
                have NM2 : Hid (nm ++ spell [x] = lowA (s.extract 0 (i + 1))) := (by rw [SNOC.out, HNM.out, LW.out] : nm ++ spell [x] = lowA (s.extract 0 (i + 1)))
                obtain ⟨wa, HA⟩ : ∃ wa, Hid (wr.alloc (.cells #[.int .u8 (x : Int)] 5) = wa) := ⟨_, rfl⟩
                have KA : Hid (Bx w wa g 41 (aggF ⟨#[]⟩ ⟨#[]⟩)) := by rw [← HA.out]; exact KR.out.below (alloc1 _ _)
                have SA : Hid (Sln wa (some ⟨wr.heap.size, 0, none⟩) 1 [x]) := one_conv (w := wr) x9 (by first | exact HA | (rw [show ((x : Nat) : Int) = (x : Int) by omega]; exact HA))
                have CV := conv_n (k := 1) SA
                have AD := addS nm (spell [x]) (by rw [spell_sz]; exact (by omega : nm.size + 1 ≤ 9223372036854775807))
                clear SNOC
                go_wp2_with (rw [HA.out])
                go_roundw
                case rel => exact ⟨i + 1, nm ++ spell [x], by omega, by go_num, rfl, NM2.out, NX.out, KA.out⟩
                case measure => simp [intOf]; omega
              · have t122 : ¬ ((x : Int) ≤ 122) := by omega
                have t48 : (48 : Int) ≤ (x : Int) := by omega
                have t57 : ¬ ((x : Int) ≤ 57) := by omega
                have t45 : ((x : Int) == 45) = false := beq_eq_false_iff_ne.2 (by omega)
                have EV : Hid (rdL s = none) := rdL_bad h1 XB.out (by rw [Hx.out]; exact nm_not (by omega)) HN.out
                obtain ⟨w9, H9⟩ : ∃ w9, Hid (wr.setRow g (aggF ⟨#[]⟩ ⟨#[]⟩) = w9) := ⟨_, rfl⟩
                have K9 : Hid (Bx w w9 g 41 (aggF ⟨#[]⟩ ⟨#[]⟩)) := by rw [← H9.out]; exact KR.out.set _
                go_wp2_with (refine wpList_store_row (by rfl) 41 (.tmp 2) (.tmp 49) (by rfl) g (aggF ⟨#[]⟩ ⟨#[]⟩) (by rfl) (by rfl) 41 _ KR.out.row (sz41 _ _) (by rfl) (one41 _ _) ?_; refine (show _ = w9 from H9.out) ▸ ?_)
                try simp only [Exit.inBlock, Exit.then]
                refine bodyPost_ret (res_row2 (by rfl) (by rfl) K9.out.row und41 (sz41 _ _)) rfl ?_
                rw [EV.out]
                exact ⟨rfl, K9.out.bel⟩
            · have t97 : ¬ ((97 : Int) ≤ (x : Int)) := by omega
              have t48 : (48 : Int) ≤ (x : Int) := by omega
              have t57 : ¬ ((x : Int) ≤ 57) := by omega
              have t45 : ((x : Int) == 45) = false := beq_eq_false_iff_ne.2 (by omega)
              have EV : Hid (rdL s = none) := rdL_bad h1 XB.out (by rw [Hx.out]; exact nm_not (by omega)) HN.out
              obtain ⟨w9, H9⟩ : ∃ w9, Hid (wr.setRow g (aggF ⟨#[]⟩ ⟨#[]⟩) = w9) := ⟨_, rfl⟩
              have K9 : Hid (Bx w w9 g 41 (aggF ⟨#[]⟩ ⟨#[]⟩)) := by rw [← H9.out]; exact KR.out.set _
              go_wp2_with (refine wpList_store_row (by rfl) 41 (.tmp 2) (.tmp 49) (by rfl) g (aggF ⟨#[]⟩ ⟨#[]⟩) (by rfl) (by rfl) 41 _ KR.out.row (sz41 _ _) (by rfl) (one41 _ _) ?_; refine (show _ = w9 from H9.out) ▸ ?_)
              try simp only [Exit.inBlock, Exit.then]
              refine bodyPost_ret (res_row2 (by rfl) (by rfl) K9.out.row und41 (sz41 _ _)) rfl ?_
              rw [EV.out]
              exact ⟨rfl, K9.out.bel⟩
        · have t65 : ¬ ((65 : Int) ≤ (x : Int)) := by omega
          have t97 : ¬ ((97 : Int) ≤ (x : Int)) := by omega
          by_cases c48 : 48 ≤ x
          · have t48 : (48 : Int) ≤ (x : Int) := by omega
            by_cases c57 : x ≤ 57
            · have t57 : (x : Int) ≤ 57 := by omega
              have NX : Hid (∀ j, j < i + 1 → nmB (sb s j) = true) := fun j hj => by
                by_cases e : j = i
                · rw [e, Hx.out]; exact nm_is (by omega)
                · exact HN.out j (by omega)
              have x9 : x < 256 := by omega
              have LW : Hid (lwN x = x) := (by unfold lwN; first | rw [if_pos (by omega)] | rw [if_neg (by omega)] : lwN x = x)
              have NM2 : Hid (nm ++ spell [x] = lowA (s.extract 0 (i + 1))) := (by rw [SNOC.out, HNM.out, LW.out] : nm ++ spell [x] = lowA (s.extract 0 (i + 1)))
              obtain ⟨wa, HA⟩ : ∃ wa, Hid (wr.alloc (.cells #[.int .u8 (x : Int)] 5) = wa) := ⟨_, rfl⟩
              have KA : Hid (Bx w wa g 41 (aggF ⟨#[]⟩ ⟨#[]⟩)) := by rw [← HA.out]; exact KR.out.below (alloc1 _ _)
              have SA : Hid (Sln wa (some ⟨wr.heap.size, 0, none⟩) 1 [x]) := one_conv (w := wr) x9 (by first | exact HA | (rw [show ((x : Nat) : Int) = (x : Int) by omega]; exact HA))
              have CV := conv_n (k := 1) SA
              have AD := addS nm (spell [x]) (by rw [spell_sz]; exact (by omega : nm.size + 1 ≤ 9223372036854775807))
              clear SNOC
              go_wp2_with (rw [HA.out])
              go_roundw
              case rel => exact ⟨i + 1, nm ++ spell [x], by omega, by go_num, rfl, NM2.out, NX.out, KA.out⟩
              case measure => simp [intOf]; omega
            · have x58 : x ≠ 58 := fun e => XB.out (Hx.out.trans e)
              have t57 : ¬ ((x : Int) ≤ 57) := by omega
              have t45 : ((x : Int) == 45) = false := beq_eq_false_iff_ne.2 (by omega)
              have EV : Hid (rdL s = none) := rdL_bad h1 XB.out (by rw [Hx.out]; exact nm_not (by omega)) HN.out
              obtain ⟨w9, H9⟩ : ∃ w9, Hid (wr.setRow g (aggF ⟨#[]⟩ ⟨#[]⟩) = w9) := ⟨_, rfl⟩
              have K9 : Hid (Bx w w9 g 41 (aggF ⟨#[]⟩ ⟨#[]⟩)) := by rw [← H9.out]; exact KR.out.set _
              go_wp2_with (refine wpList_store_row (by rfl) 41 (.tmp 2) (.tmp 49) (by rfl) g (aggF ⟨#[]⟩ ⟨#[]⟩) (by rfl) (by rfl) 41 _ KR.out.row (sz41 _ _) (by rfl) (one41 _ _) ?_; refine (show _ = w9 from H9.out) ▸ ?_)
              try simp only [Exit.inBlock, Exit.then]
              refine bodyPost_ret (res_row2 (by rfl) (by rfl) K9.out.row und41 (sz41 _ _)) rfl ?_
              rw [EV.out]
              exact ⟨rfl, K9.out.bel⟩
          · have t48 : ¬ ((48 : Int) ≤ (x : Int)) := by omega
            by_cases c45 : x = 45
            · subst c45
              have NX : Hid (∀ j, j < i + 1 → nmB (sb s j) = true) := fun j hj => by
                by_cases e : j = i
                · rw [e, Hx.out]; exact nm_is (by omega)
                · exact HN.out j (by omega)
              have x9 : 45 < 256 := by omega
              have LW : Hid (lwN 45 = 45) := (by unfold lwN; first | rw [if_pos (by omega)] | rw [if_neg (by omega)] : lwN 45 = 45)
              have NM2 : Hid (nm ++ spell [45] = lowA (s.extract 0 (i + 1))) := (by rw [SNOC.out, HNM.out, LW.out] : nm ++ spell [45] = lowA (s.extract 0 (i + 1)))
              obtain ⟨wa, HA⟩ : ∃ wa, Hid (wr.alloc (.cells #[.int .u8 45] 5) = wa) := ⟨_, rfl⟩
              have KA : Hid (Bx w wa g 41 (aggF ⟨#[]⟩ ⟨#[]⟩)) := by rw [← HA.out]; exact KR.out.below (alloc1 _ _)
              have SA : Hid (Sln wa (some ⟨wr.heap.size, 0, none⟩) 1 [45]) := one_conv (w := wr) x9 (by first | exact HA | (rw [show ((45 : Nat) : Int) = 45 by omega]; exact HA))
              have CV := conv_n (k := 1) SA
              have AD := addS nm (spell [45]) (by rw [spell_sz]; exact (by omega : nm.size + 1 ≤ 9223372036854775807))
              clear SNOC
              go_wp2_with (rw [HA.out])
              go_roundw
              case rel => exact ⟨i + 1, nm ++ spell [45], by omega, by go_num, rfl, NM2.out, NX.out, KA.out⟩
              case measure => simp [intOf]; omega
            · have t45 : ((x : Int) == 45) = false := beq_eq_false_iff_ne.2 (by omega)
              have EV : Hid (rdL s = none) := rdL_bad h1 XB.out (by rw [Hx.out]; exact nm_not (by omega)) HN.out
              obtain ⟨w9, H9⟩ : ∃ w9, Hid (wr.setRow g (aggF ⟨#[]⟩ ⟨#[]⟩) = w9) := ⟨_, rfl⟩
              have K9 : Hid (Bx w w9 g 41 (aggF ⟨#[]⟩ ⟨#[]⟩)) := by rw [← H9.out]; exact KR.out.set _
              go_wp2_with (refine wpList_store_row (by rfl) 41 (.tmp 2) (.tmp 49) (by rfl) g (aggF ⟨#[]⟩ ⟨#[]⟩) (by rfl) (by rfl) 41 _ KR.out.row (sz41 _ _) (by rfl) (one41 _ _) ?_; refine (show _ = w9 from H9.out) ▸ ?_)
              try simp only [Exit.inBlock, Exit.then]
              refine bodyPost_ret (res_row2 (by rfl) (by rfl) K9.out.row und41 (sz41 _ _)) rfl ?_
              rw [EV.out]
              exact ⟨rfl, K9.out.bel⟩
    · have i1 : ¬ ((i : Int) < (s.size : Int)) := by omega
      have EV : Hid (rdL s = none) := rdL_none (fun j hj => HN.out j (by omega))
      by_cases c0 : (i : Int) = 0
      · have d0 : ((i : Int) == 0) = true := beq_iff_eq.2 c0
        clear c0 hi h1 HNM
        obtain ⟨w9, H9⟩ : ∃ w9, Hid (wr.setRow g (aggF ⟨#[]⟩ ⟨#[]⟩) = w9) := ⟨_, rfl⟩
        have K9 : Hid (Bx w w9 g 41 (aggF ⟨#[]⟩ ⟨#[]⟩)) := by rw [← H9.out]; exact KR.out.set _
        go_wp2_with (refine wpList_store_row (by rfl) 41 (.tmp 2) (.tmp 65) (by rfl) g (aggF ⟨#[]⟩ ⟨#[]⟩) (by rfl) (by rfl) 41 _ KR.out.row (sz41 _ _) (by rfl) (one41 _ _) ?_; refine (show _ = w9 from H9.out) ▸ ?_)
        try simp only [Exit.inBlock, Exit.then]
        refine bodyPost_ret (res_row2 (by rfl) (by rfl) K9.out.row und41 (sz41 _ _)) rfl ?_
        rw [EV.out]
        exact ⟨rfl, K9.out.bel⟩
      · have d0 : ((i : Int) == 0) = false := beq_eq_false_iff_ne.2 c0
        have d1 : ((i : Int) == (s.size : Int)) = true := beq_iff_eq.2 (by omega)
        clear c0 hi h1 HNM
        obtain ⟨w9, H9⟩ : ∃ w9, Hid (wr.setRow g (aggF ⟨#[]⟩ ⟨#[]⟩) = w9) := ⟨_, rfl⟩
        have K9 : Hid (Bx w w9 g 41 (aggF ⟨#[]⟩ ⟨#[]⟩)) := by rw [← H9.out]; exact KR.out.set _
        go_wp2_with (refine wpList_store_row (by rfl) 41 (.tmp 2) (.tmp 65) (by rfl) g (aggF ⟨#[]⟩ ⟨#[]⟩) (by rfl) (by rfl) 41 _ KR.out.row (sz41 _ _) (by rfl) (one41 _ _) ?_; refine (show _ = w9 from H9.out) ▸ ?_)
        try simp only [Exit.inBlock, Exit.then]
        refine bodyPost_ret (res_row2 (by rfl) (by rfl) K9.out.row und41 (sz41 _ _)) rfl ?_
        rw [EV.out]
        exact ⟨rfl, K9.out.bel⟩
end Go.Proofs.YtemhhlongfabmaaGreatDoor
