/- What the document's code of a message under a key does to a machine: the walk. -/
import Derived.Test.YthkoidfjmbfoiaaDoorMe
import Derived.Deep.RegionWith
namespace Go.Proofs.YthkoidfjmbfoiaaDoor
open Go.ChangeShapes Go.WideShapes Go.ChangeAt Go.RowKit
set_option linter.unusedVariables false
set_option linter.unusedSimpArgs false
structure Rq (w wr : World) (a : Option Addr) (n : Nat) (key kk : List Nat) : Prop where
  kp : Kp w wr
  ks : Sln wr a n kk
  le : n ≤ 64
  eq : kk = if 64 < key.length then Gs.sum key else key
def mz64 : Array Value := madeCells #[.int .u8 0] 64
theorem rk_new {w wc : World} {a : Option Addr} {n : Nat} {key kk : List Nat} (h : Rq w wc a n key kk) (q : Nat) :
    Rk w (((wc.drewN q).alloc (.cells mz64 5)).alloc (.cells mz64 5)) wc.heap.size (wc.heap.size + 1) a n kk Zb64 Zb64 ∧ Rk w (((wc.drewN q).alloc (.cells mz64 5)).alloc (.cells mz64 5)) (wc.heap.size + 1) wc.heap.size a n kk Zb64 Zb64 := by
  have b1 : Below wc.heap.size wc (wc.drewN q) := below_drewN (Below.refl _ _) q
  have b2 : Below wc.heap.size (wc.drewN q) (((wc.drewN q).alloc (.cells mz64 5)).alloc (.cells mz64 5)) := below2 (wc.drewN q) _ _
  have b := b1.trans b2
  have k2 : Kp w (((wc.drewN q).alloc (.cells mz64 5)).alloc (.cells mz64 5)) := h.kp.below b
  have s2 := h.ks.below b
  have m1 := Blk.made (wc.drewN q) 64
  have m2 : Blk (((wc.drewN q).alloc (.cells mz64 5)).alloc (.cells mz64 5)) (wc.heap.size + 1) Zb64 := by
    have h1 := Blk.made ((wc.drewN q).alloc (.cells mz64 5)) 64
    rw [show ((wc.drewN q).alloc (.cells mz64 5)).heap.size = wc.heap.size + 1 from by simp] at h1
    exact h1
  have m1' : Blk (((wc.drewN q).alloc (.cells mz64 5)).alloc (.cells mz64 5)) wc.heap.size Zb64 := m1.alloc _
  have l1 := h.kp.out.lt
  have ap : ∀ b off, kk ≠ [] → a = some ⟨b, off, none⟩ → b < wc.heap.size := by
    intro b off h3 h4
    obtain ⟨b', off', h5, h6, _⟩ := h.ks.sli.2.2.resolve_left h3
    rw [h5] at h4
    simp at h4
    omega
  exact ⟨⟨k2, s2, m1', m2, by omega, l1, by omega, fun b off h3 h4 => by have := ap b off h3 h4; omega⟩, ⟨k2, s2, m2, m1', by omega, by omega, l1, fun b off h3 h4 => by have := ap b off h3 h4; omega⟩⟩
set_option maxRecDepth 20000 in
set_option maxHeartbeats 2000000 in
theorem refmac_n {w : World} {ak am : Option Addr} {nk ck nm cm : Nat} {key msg : List Nat} (hK : Hid (Sln w ak nk key)) (zk : Hid (ak = none → ck = 0)) (hM : Hid (Sln w am nm msg)) (zm : Hid (am = none → cm = 0)) (hm : nm ≤ 140737488352192) :
    Calls Tryd.prog 16 #[.slice ak nk ck, .slice am nm cm] w fun e w' => ∃ d, e = .returned (.agg (cs .u8 d)) ∧ Hid (d = Gs.mac key msg ∧ Below w.heap.size w w') := by
  have REF : Hid RefSum := refsum_n
  obtain ⟨w0, W0⟩ : ∃ w0, Hid (w.alloc (.cells (cs .u8 Zb32) 25) = w0) := ⟨_, rfl⟩
  have K0 : Hid (Kp w w0) := by rw [← W0.out]; exact Kp.first w
  have S0 : Hid (Sln w0 ak nk key) := hK.out.below K0.out.bel
  have HE : Hid (nk = key.length) := hK.out.len
  have mk : ∀ w : World, (Instr.makeSlice 22 (.int .i64 64) (.int .i64 64)).run Tryd.prog w = .ok (.slice (some ⟨w.heap.size, 0, none⟩) 64 64) (w.alloc (.cells mz64 5)) := make_bytes 64 (by omega)
  go_enter Tryd.func16, Tryd.ntmps16
  go_upto_if 13 with (fail)
  refine (show _ = w0 from W0.out) ▸ ?_
  go_cut [0] from 11 (fun t0 wc => ∃ (a : Option Addr) (n c : Nat) (kk : List Nat), t0 = .slice a n c ∧ Hid (Rq w wc a n key kk))
  case first =>
    by_cases h64 : 64 < nk
    · have i1 : (64 : Int) < (nk : Int) := by omega
      have EL : Hid (Gs.sum key = if 64 < key.length then Gs.sum key else key) := by rw [if_pos (by rw [← HE.out]; exact h64)]; exact rfl
      clear mk
      go_upto_region 3 with (first
        | (go_at_call 12; refine (REF.out _ _ _ _ _ S0 zk).mono ?_; rintro e w1 ⟨d1, rfl, H1⟩
           have L1 : Hid (d1.length = 32) := by rw [H1.out.1]; exact sum_length _
           have K1 : Hid (Kp w w1) := K0.out.below H1.out.2
           have N1 : Hid (Arr .u8 25 (w1.alloc (.cells (cs .u8 Zb32) 25)) w1.heap.size Zb32) := Arr.new w1 .u8 25 Zb32
           obtain ⟨w2, W2⟩ : ∃ w2, Hid ((w1.alloc (.cells (cs .u8 Zb32) 25)).setRow w1.heap.size (cs .u8 d1) = w2) := ⟨_, rfl⟩
           have A2 : Hid (Arr .u8 25 w2 w1.heap.size d1) := by rw [← W2.out]; exact N1.out.setRow d1
           have B2 : Hid (Below w1.heap.size w1 w2) := by rw [← W2.out]; exact (Oth.setRow _).below ((Below.refl _ _).alloc (Nat.le_refl _) _) (Nat.le_refl _)
           have K2 : Hid (Kp w w2) := K1.out.below B2.out)
        | (refine wpList_st0 (t := 25) (l := Zb32) (l2 := d1) (by rfl) (by rfl) 25 (.tmp 5) (.tmp 15) (by rfl) (by rfl) (by rfl) N1 (by rw [L1.out]; exact sz25) (by rw [L1.out]; rfl) ?_; refine (show _ = w2 from W2.out) ▸ ?_))
      have B3 : Below w2.heap.size w2 (w2.alloc (.cells #[] 5)) := (Below.refl _ _).alloc (Nat.le_refl _) _
      have K3 : Kp w (w2.alloc (.cells #[] 5)) := K2.out.below B3
      have lt1 : ∀ x ∈ d1, x < 256 := by rw [H1.out.1]; exact sum_lt _
      have S3 : Sln (w2.alloc (.cells #[] 5)) (some ⟨w1.heap.size, 0, none⟩) 32 d1 := Blk0.sln (A2.out.below B3 A2.out.lt) lt1 L1.out (by omega)
      have E3 : Blk (w2.alloc (.cells #[] 5)) w2.heap.size [] := heap_alloc_new w2 _
      obtain ⟨g4, cap4, w4, ap4, R4, G4, G4', C4, gr4⟩ := app_blk (k := 0) (c := 32) E3 rfl S3 (by simp) (by simp) (by simp)
      rw [Nat.zero_add] at ap4
      have K4 : Hid (Kp w w4) := K3.grown gr4 K2.out.out.lt
      have S4 : Hid (Sln w4 (some ⟨g4, 0, none⟩) 32 d1) := Row.sln R4 G4' L1.out.symm lt1 (by rw [L1.out]; omega)
      have AP : Hid ((Builtin.append_ #[22, 22] 22 #[.slice (some ⟨w2.heap.size, 0, none⟩) 0 0, .slice (some ⟨w1.heap.size, 0, none⟩) 32 32]).run Tryd.prog (w2.alloc (.cells #[] 5)) = .ok (.slice (some ⟨g4, 0, none⟩) 32 cap4) w4) := ap4
      clear B3 K3 S3 E3 ap4 R4 G4 G4' C4 gr4 B2 A2 N1 K1 K2
      go_wp2_with (at_builtin; refine wpList_app (by rfl) (.tmp 16) (.tmp 17) (by rfl) (by rfl) (by rfl) (by rfl) AP ?_)
      go_meet
      case rel => exact ⟨_, 32, cap4, d1, rfl, K4.out, S4.out, by omega, by rw [H1.out.1]; exact EL.out⟩
    · have i1 : (decide ((64 : Int) < (nk : Int))) = false := by simp; omega
      have RQ : Hid (Rq w w0 ak nk key key) := ⟨K0.out, S0.out, by omega, by rw [if_neg (by rw [← HE.out]; exact h64)]⟩
      clear mk
      go_wp2
      go_meet
      case rel => exact ⟨ak, nk, ck, key, rfl, RQ.out⟩
  case rest =>
    obtain ⟨a, n, c, kk, rfl, HQ⟩ := hcut
    go_upto_region 4 with (fail)
    go_cut [6, 7] from 11 (fun t6 t7 wd => ∃ gi go : Nat, t6 = .slice (some ⟨gi, 0, none⟩) 64 64 ∧ t7 = .slice (some ⟨go, 0, none⟩) 64 64 ∧ Hid (Rk w wd gi go a n kk Zb64 Zb64))
    case first =>
      go_region_with (fail)
      all_goals go_wp2
      all_goals go_meet
      case rel => exact ⟨_, _, rfl, rfl, (rk_new HQ.out 1).1⟩
      case rel => exact ⟨_, _, rfl, rfl, (rk_new HQ.out 1).2⟩
    case rest =>
      obtain ⟨gi, go, rfl, rfl, HR⟩ := hcut
      clear mk
      obtain ⟨P, HP⟩ : ∃ P, Hid (Gs.pad kk = P) := ⟨_, rfl⟩
      have KL : Hid (n = kk.length ∧ n ≤ 64) := ⟨HQ.out.ks.len, HQ.out.le⟩
      have PL : Hid (P.length = 64) := by rw [← HP.out]; exact pad_length _ (by rw [← KL.out.1]; exact KL.out.2)
      have PB : Hid (∀ x ∈ P, x < 256) := by rw [← HP.out]; exact pad_lt HQ.out.ks.lt
      have PK : Hid (P = Gs.kblk key) := by
        have h := HQ.out.eq
        unfold Gs.kblk
        rw [← h]
        exact HP.out.symm
      clear HQ
      go_wp2
      go_loopw [23] (fun ti wr => ∃ k : Nat, k ≤ 64 ∧ ti = .int .i64 k ∧ Hid (Rk w wr gi go a n kk (ext (Gs.xorL (P.take k) 54) 64) (ext (Gs.xorL (P.take k) 92) 64))) (fun ti _ => 64 - (intOf ti).toNat)
      case atStart => exact ⟨0, by omega, rfl, HR.out⟩
      case round =>
        obtain ⟨k, hk, rfl, HW⟩ := hrel
        by_cases hlt : k < 64
        · have i1 : (0 : Int) ≤ (k : Int) := by omega
          have i2 : (k : Int) < 64 := by omega
          obtain ⟨ch, CH⟩ : ∃ x, Hid (P.getD k 0 = x) := ⟨_, rfl⟩
          have ch1 : ch < 256 := by rw [← CH.out]; exact getD_lt PB.out k
          obtain ⟨x, X⟩ : ∃ x, Hid (ch ^^^ 54 = x) := ⟨_, rfl⟩
          obtain ⟨y, Y⟩ : ∃ y, Hid (ch ^^^ 92 = y) := ⟨_, rfl⟩
          obtain ⟨li, LI⟩ : ∃ l, Hid (ext (Gs.xorL (P.take k) 54) 64 = l) := ⟨_, rfl⟩
          obtain ⟨lo, LO⟩ : ∃ l, Hid (ext (Gs.xorL (P.take k) 92) 64 = l) := ⟨_, rfl⟩
          have LX : Hid (ext (Gs.xorL (P.take (k + 1)) 54) 64 = li.set k x) := by
            rw [xor_snoc P 54 k (by rw [PL.out]; exact hlt), CH.out, X.out, ← ext_set (xor_len P 54 k (by rw [PL.out]; omega)) hlt, LI.out]
            exact rfl
          have LY : Hid (ext (Gs.xorL (P.take (k + 1)) 92) 64 = lo.set k y) := by
            rw [xor_snoc P 92 k (by rw [PL.out]; exact hlt), CH.out, Y.out, ← ext_set (xor_len P 92 k (by rw [PL.out]; omega)) hlt, LO.out]
            exact rfl
          have NI : Hid (li.length = 64) := by rw [← LI.out]; exact ext_length _ _ (by rw [xor_len P 54 k (by rw [PL.out]; omega)]; omega)
          have NO : Hid (lo.length = 64) := by rw [← LO.out]; exact ext_length _ _ (by rw [xor_len P 92 k (by rw [PL.out]; omega)]; omega)
          rw [LI.out, LO.out] at HW
          obtain ⟨w1, W1⟩ : ∃ w1, Hid (wr.setCell ⟨gi, k, none⟩ (.int .u8 (x : Int)) = w1) := ⟨_, rfl⟩
          obtain ⟨w2, W2⟩ : ∃ w2, Hid (w1.setCell ⟨go, k, none⟩ (.int .u8 (y : Int)) = w2) := ⟨_, rfl⟩
          have H2 : Hid (Rk w w2 gi go a n kk (li.set k x) (lo.set k y)) := by rw [← W2.out, ← W1.out]; exact HW.out.put k x y
          have A1 : Hid (Arr .u8 5 wr gi li) := HW.out.bi
          have A2 : Hid (Arr .u8 5 w1 go lo) := by
            have o1 : Oth gi wr w1 := by rw [← W1.out]; exact (Oth.refl _ wr).setCell k _
            exact Arr.oth (k := .u8) (t := 5) HW.out.bo o1 (Ne.symm HW.out.ne)
          have e1 : bits BinOp.xor IntKind.u8 (ch : Int) 54 = (x : Int) := by rw [show (54 : Int) = ((54 : Nat) : Int) from rfl, u8_xor_nat ch 54 ch1 (by decide), X.out]
          have e2 : bits BinOp.xor IntKind.u8 (ch : Int) 92 = (y : Int) := by rw [show (92 : Int) = ((92 : Nat) : Int) from rfl, u8_xor_nat ch 92 ch1 (by decide), Y.out]
          by_cases hkn : k < n
          · have i3 : (k : Int) < (n : Int) := by omega
            obtain ⟨b, off, hab, cc⟩ := row_at HW.out.ks hkn
            have cc2 : wr.cell? ⟨b, off + k, none⟩ = some (.int .u8 (ch : Nat)) := by
              rw [cc, ← CH.out, ← HP.out, pad_getD hlt]
            subst hab
            clear cc hm
            go_wp2_with (first
              | (refine wpList_stc (by rfl) (by rfl) (.tmp 42) (.tmp 39) (by rfl) (by rfl) (by rfl) A1 (by rw [NI.out]; omega) ?_; (try rw [e1]); rw [W1.out])
              | (refine wpList_stc (by rfl) (by rfl) (.tmp 43) (.tmp 41) (by rfl) (by rfl) (by rfl) A2 (by rw [NO.out]; omega) ?_; (try rw [e2]); rw [W2.out]))
            go_roundw
            case rel => exact ⟨k + 1, by omega, by go_num, by rw [LX.out, LY.out]; exact H2.out⟩
            case measure => simp [intOf]; omega
          · have i3 : ¬ ((k : Int) < (n : Int)) := by omega
            have hz : ch = 0 := by
              rw [← CH.out, ← HP.out, pad_getD hlt]
              exact getD_out (by rw [← KL.out.1]; omega)
            subst hz
            have f1 : bits BinOp.xor IntKind.u8 0 54 = (x : Int) := e1
            have f2 : bits BinOp.xor IntKind.u8 0 92 = (y : Int) := e2
            clear e1 e2 hm
            go_wp2_with (first
              | (refine wpList_stc (by rfl) (by rfl) (.tmp 42) (.tmp 39) (by rfl) (by rfl) (by rfl) A1 (by rw [NI.out]; omega) ?_; (try rw [f1]); rw [W1.out])
              | (refine wpList_stc (by rfl) (by rfl) (.tmp 43) (.tmp 41) (by rfl) (by rfl) (by rfl) A2 (by rw [NO.out]; omega) ?_; (try rw [f2]); rw [W2.out]))
            go_roundw
            case rel => exact ⟨k + 1, by omega, by go_num, by rw [LX.out, LY.out]; exact H2.out⟩
            case measure => simp [intOf]; omega
        · have i2 : ¬ ((k : Int) < 64) := by omega
          have ek : k = 64 := by omega
          subst ek
          obtain ⟨LI, HLI⟩ : ∃ l, Hid (Gs.xorL P 54 = l) := ⟨_, rfl⟩
          obtain ⟨LO, HLO⟩ : ∃ l, Hid (Gs.xorL P 92 = l) := ⟨_, rfl⟩
          have NI : Hid (LI.length = 64) := by rw [← HLI.out, xorL_length]; exact PL.out
          have NO : Hid (LO.length = 64) := by rw [← HLO.out, xorL_length]; exact PL.out
          have BI : Hid (∀ x ∈ LI, x < 256) := by rw [← HLI.out]; exact xorL_lt PB.out (by decide)
          have BO : Hid (∀ x ∈ LO, x < 256) := by rw [← HLO.out]; exact xorL_lt PB.out (by decide)
          have hR : Rk w wr gi go a n kk LI LO := by
            have h := HW.out
            rw [List.take_of_length_le (by rw [PL.out]; omega), HLI.out, HLO.out] at h
            have e1 : ext LI 64 = LI := by simp [ext, NI.out]
            have e2 : ext LO 64 = LO := by simp [ext, NO.out]
            rw [e1, e2] at h
            exact h
          have SM := hM.out.below hR.kp.bel
          have ML := hM.out.len
          obtain ⟨g1, cap1, w1, ap1, row1, G1, G1', C1, gr1⟩ := app_blk (k := 64) (c := cm) hR.bi NI.out.symm SM zm.out (by rw [NI.out]; omega) (by rw [NI.out]; omega)
          have AP1 : Hid ((Builtin.append_ #[22, 22] 22 #[.slice (some ⟨gi, 0, none⟩) 64 64, .slice am nm cm]).run Tryd.prog wr = .ok (.slice (some ⟨g1, 0, none⟩) (64 + nm) cap1) w1) := ap1
          have K1 : Hid (Kp w w1) := hR.kp.grown gr1 hR.ri
          have O1 : Hid (Blk w1 go LO) := hR.bo.grown gr1 (Ne.symm hR.ne)
          have S1 : Hid (Sln w1 (some ⟨g1, 0, none⟩) (64 + nm) (LI ++ msg)) := Row.sln row1 G1' (by simp [NI.out, ML]) (fun x hx => by
            rcases List.mem_append.1 hx with h | h
            · exact BI.out x h
            · exact hM.out.lt x h) (by simp [NI.out]; omega)
          have Y1 : Hid ((some (⟨g1, 0, none⟩ : Addr)) = none → cap1 = 0) := fun h => by cases h
          have RO : Hid (w.heap.size < go) := hR.ro
          clear SM ML ap1 row1 G1 G1' C1 gr1 hR HW hm
          go_upto_region 14 with (first
            | (at_builtin; refine wpList_app (by rfl) (.tmp 45) (.tmp 46) (by rfl) (by rfl) (by rfl) (by rfl) AP1 ?_)
            | (go_at_call 12; refine (REF.out _ _ _ _ _ S1 Y1).mono ?_; rintro e w2 ⟨d2, rfl, H2⟩
               have L2 : Hid (d2.length = 32) := by rw [H2.out.1]; exact sum_length _
               have K2 : Hid (Kp w w2) := K1.out.below H2.out.2
               have O2 : Hid (Blk w2 go LO) := O1.out.below H2.out.2 O1.out.lt
               have N2 : Hid (Arr .u8 25 (w2.alloc (.cells (cs .u8 Zb32) 25)) w2.heap.size Zb32) := Arr.new w2 .u8 25 Zb32
               obtain ⟨w3, W3⟩ : ∃ w3, Hid ((w2.alloc (.cells (cs .u8 Zb32) 25)).setRow w2.heap.size (cs .u8 d2) = w3) := ⟨_, rfl⟩
               have A3 : Hid (Arr .u8 25 w3 w2.heap.size d2) := by rw [← W3.out]; exact N2.out.setRow d2
               have B3 : Hid (Below w2.heap.size w2 w3) := by rw [← W3.out]; exact (Oth.setRow _).below ((Below.refl _ _).alloc (Nat.le_refl _) _) (Nat.le_refl _)
               have K3 : Hid (Kp w w3) := K2.out.below B3.out
               have O3 : Hid (Blk w3 go LO) := O2.out.below B3.out O2.out.lt)
            | (refine wpList_st0 (t := 25) (l := Zb32) (l2 := d2) (by rfl) (by rfl) 25 (.tmp 10) (.tmp 48) (by rfl) (by rfl) (by rfl) N2 (by rw [L2.out]; exact sz25) (by rw [L2.out]; rfl) ?_; refine (show _ = w3 from W3.out) ▸ ?_))
          have D2 : Hid (d2 = Gs.sum (LI ++ msg)) := H2.out.1
          have E2 : Hid (∀ x ∈ d2, x < 256) := by rw [D2.out]; exact sum_lt _
          have S3 := Blk0.sln A3.out E2.out L2.out (by omega)
          obtain ⟨g4, cap4, w4, ap4, row4, G4, G4', C4, gr4⟩ := app_blk (k := 64) (c := 32) O3.out NO.out.symm S3 (by simp) (by rw [NO.out]; omega) (by rw [NO.out]; omega)
          have AP4 : Hid ((Builtin.append_ #[22, 22] 22 #[.slice (some ⟨go, 0, none⟩) 64 64, .slice (some ⟨w2.heap.size, 0, none⟩) 32 32]).run Tryd.prog w3 = .ok (.slice (some ⟨g4, 0, none⟩) 96 cap4) w4) := ap4
          have K4 : Hid (Kp w w4) := K3.out.grown gr4 RO.out
          have S4 : Hid (Sln w4 (some ⟨g4, 0, none⟩) 96 (LO ++ d2)) := Row.sln row4 G4' (by simp [NO.out, L2.out]) (fun x hx => by
            rcases List.mem_append.1 hx with h | h
            · exact BO.out x h
            · exact E2.out x h) (by simp [NO.out, L2.out])
          have Y4 : Hid ((some (⟨g4, 0, none⟩ : Addr)) = none → cap4 = 0) := fun h => by cases h
          clear S3 ap4 row4 G4 G4' C4 gr4 H2 K1 O1 S1 Y1 AP1 K2 O2 N2 W3 A3 B3 K3 O3
          go_wp2_with (first
            | (at_builtin; refine wpList_app (by rfl) (.tmp 49) (.tmp 50) (by rfl) (by rfl) (by rfl) (by rfl) AP4 ?_)
            | (go_at_call 12; refine (REF.out _ _ _ _ _ S4 Y4).mono ?_; rintro e w5 ⟨d5, rfl, H5⟩
               have L5 : Hid (d5.length = 32) := by rw [H5.out.1]; exact sum_length _
               have K5 : Hid (Kp w w5) := K4.out.below H5.out.2
               have A5 : Hid (Arr .u8 25 w5 w.heap.size Zb32) := K5.out.out)
            | (refine wpList_st0 (t := 25) (l := Zb32) (l2 := d5) (by rfl) (by rfl) 25 (.tmp 4) (.tmp 52) (by rfl) (by rfl) (by rfl) A5 (by rw [L5.out]; exact sz25) (by rw [L5.out]; rfl) ?_))
          refine bodyPost_ret (v := .agg (cs .u8 d5)) (res_arr (by rfl) (by rfl) (A5.out.setRow d5) und25 (by rw [L5.out]; exact sz25)) rfl ?_
          refine ⟨d5, rfl, ?_, (Oth.setRow _).below K5.out.bel (Nat.le_refl _)⟩
          rw [H5.out.1, D2.out, ← HLI.out, ← HLO.out, PK.out]
          rfl
end Go.Proofs.YthkoidfjmbfoiaaDoor
