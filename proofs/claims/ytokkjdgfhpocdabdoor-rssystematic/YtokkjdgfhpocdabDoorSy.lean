/- What the Go function RsSystematic does, for all numbers and bytes: it returns true, and changes nothing that was there. -/
import Derived.Test.YtokkjdgfhpocdabDoorEn
namespace Go.Proofs.YtokkjdgfhpocdabDoor
open Go.ChangeShapes Go.WideShapes Go.ChangeAt Go.RowKit
set_option linter.unusedVariables false
set_option linter.unusedSimpArgs false
set_option linter.unnecessarySimpa false
theorem encode_bad (k m : Int) (n c : Nat) (a : Option Addr) (wk : (Lit.int .i64 k).wf = true) (wm : (Lit.int .i64 m).wf = true) (wn : (Lit.int .i64 (n : Int)).wf = true) (hn : n ≤ 140737488351232) (j : Nat) (h : errNo k m n = j + 1) (w : World) (E : Nat → Addr) (hE : Hid (Errs w E)) :
    Calls Tryd.prog 5 #[.int .i64 k, .int .i64 m, .slice a n c] w fun e w' => e = .returned (.tuple #[.slice none 0 0, .iface 61 (.pointer (some (E j)))]) ∧ Hid (∃ q, w' = w.drewN q) := by
  have SB : Hid (∀ w, Hid (Errs w E) → Calls Tryd.prog 9 #[.int .i64 k, .int .i64 m, .int .i64 (n : Int)] w fun e w' => e = .returned (.tuple #[.int .i64 (0 : Int), .iface 61 (.pointer (some (E j)))]) ∧ Hid (∃ q, w' = w.drewN q)) := by
    intro w hE
    have h0 := size_bad k m n wk wm wn (by omega) w E hE
    rw [h] at h0
    exact h0
  clear h
  go_enter Tryd.func5, Tryd.ntmps5
  go_wp2_with (go_at_call 9; refine (SB.out _ hE).mono ?_; rintro e w1 ⟨rfl, H1⟩)
  go_ret2
  exact ⟨rfl, H1.out⟩
theorem same_n {a1 a2 : Option Addr} {n1 n2 k1 k2 : Nat} {l : List Nat} {w : World} (h1 : Hid (Sln w a1 n1 l)) (h2 : Hid (Sln w a2 n2 l)) :
    Calls Tryd.prog 7 #[.slice a1 n1 k1, .slice a2 n2 k2] w fun e w' => e = .returned (.bool true) ∧ w' = w := by
  have c1 := conv_n (k := k1) h1
  have c2 := conv_n (k := k2) h2
  go_enter Tryd.func7, Tryd.ntmps7
  go_wp2
  go_ret
  exact ⟨rfl, rfl⟩
theorem app_sl (w : World) (B g n cap s b : Nat) (xs l : List Nat) (own : w.ownsRow B 5 1 (.slice (some ⟨g, 0, none⟩) n cap) n (xs.map bv)) (hb : Blk w b l) (hl : s = l.length) (hB : B ≤ w.heap.size) (hk : n + s ≤ 1000000) :
    ∃ g' cap' w', (Builtin.append_ #[22, 22] 22 #[.slice (some ⟨g, 0, none⟩) n cap, .slice (some ⟨b, 0, none⟩) s s]).run Tryd.prog w = .ok (.slice (some ⟨g', 0, none⟩) (n + s) cap') w' ∧ w'.ownsRow B 5 1 (.slice (some ⟨g', 0, none⟩) (n + s) cap') (n + s) ((xs ++ l).map bv) ∧ w.grownBy w' (some g) := by
  obtain ⟨i, hi, hz0, hz1, hz2⟩ := info_parts info5
  obtain ⟨v', w', hrun, hown, hgr, hnil⟩ := run_append_own (P := Tryd.prog) w B 22 22 5 i (.int .u8 0) 1 1 Tryd.underlying22 hi hz0 hz1 hz2 rfl (by decide) _ n (xs.map bv) own ⟨b, 0, none⟩ s s (l.map bv) (by simp [hl]) (map_cells hb.row) (map_one _) (by unfold maxLen; omega) (by omega) hB
  rcases hown.2 with ⟨h0, _⟩ | ⟨g', cap', cur, rfl, _⟩
  · exact absurd (hnil.1 h0).1 (by simp)
  · refine ⟨g', cap', w', hrun, ?_, hgr⟩
    rw [List.map_append]
    exact hown
/- the data shards, one behind the other -/
theorem dsh_cut (size N : Nat) (data : List Nat) (i : Nat) (hd : data.length ≤ N) (hi : i * size + size ≤ N) : dsh size data i = ((ext data N).drop (i * size)).take size := by
  have hl : (ext data N).length = N := ext_length _ _ hd
  apply list_ext_getD
  · rw [dsh_length]; simp [hl]; omega
  · intro b hb
    rw [dsh_length] at hb
    unfold dsh
    rw [ext_getD]
    simp only [List.getD]
    rw [List.getElem?_take_of_lt hb, List.getElem?_drop, List.getElem?_take_of_lt hb, List.getElem?_drop]
    have h2 := ext_getD data N (i * size + b)
    simp only [List.getD] at h2
    exact h2.symm
theorem flat_data (k m size : Nat) (data : List Nat) (hs : size = sz k data.length) (hd : data.length ≤ k * size) (i : Nat) (hi : i ≤ k) : flat (shards k m data) i = (ext data (k * size)).take (i * size) := by
  induction i with
  | zero => simp [flat]
  | succ i ih =>
    have hl : i < (shards k m data).length := by simp [shards]; omega
    rw [flat_succ hl, ih (by omega)]
    have e : (shards k m data).getD i [] = dsh size data i := by
      have h1 : i < k + m := by omega
      have h2 : i < k := by omega
      simp [shards, List.getD, h1, shard, h2, hs]
    have hm : i * size + size ≤ k * size := by
      have := Nat.mul_le_mul_right size (by omega : i + 1 ≤ k)
      rw [Nat.add_mul] at this; omega
    rw [e, dsh_cut size (k * size) data i hd hm, Nat.add_mul, Nat.one_mul, List.take_add]
theorem sz_bounds (k n : Nat) (hk : 1 ≤ k) : n ≤ k * sz k n ∧ k * sz k n < n + k := by
  unfold sz
  have h1 := Nat.div_add_mod (n + k - 1) k
  have h2 := Nat.mod_lt (n + k - 1) (by omega : k > 0)
  omega
set_option maxRecDepth 20000 in
set_option maxHeartbeats 2000000 in
theorem sys_ok (k m n c : Nat) (a : Option Addr) (data : List Nat) (w : World) (h1 : 1 ≤ m) (h2 : m ≤ k) (h3 : k + m ≤ 16) (hn : n ≤ 1024) (S : Hid (Sln w a n data)) (hc : n ≤ c) (hc2 : c ≤ 140737488351232) :
    Calls Tryd.prog 3 #[.int .i64 (k : Int), .int .i64 (m : Int), .slice a n c] w fun e w' => e = .returned (.bool true) ∧ Hid (Below w.heap.size w w') := by
  obtain ⟨s, Hs⟩ : ∃ s, Hid (sz k n = s) := ⟨_, rfl⟩
  have hs := sz_le k n (by omega) (by omega) hn
  rw [Hs.out] at hs
  have hdl : n = data.length := S.out.len
  obtain ⟨NN, HN⟩ : ∃ NN, Hid (k * s = NN) := ⟨_, rfl⟩
  have hb := sz_bounds k n (by omega)
  rw [Hs.out, HN.out] at hb
  have hN1 := hb.1
  have hN2 := hb.2
  have FD : Hid (∀ i, i ≤ k → flat (shards k m data) i = (ext data NN).take (i * s)) := by
    intro i hi
    have h := flat_data k m s data (by rw [← hdl]; exact Hs.out.symm) (by rw [HN.out, ← hdl]; exact hN1) i hi
    rw [HN.out] at h
    exact h
  have FE : Hid (∀ i, (ext data NN).getD i 0 = data.getD i 0) := fun i => ext_getD data NN i
  have EL : Hid ((ext data NN).length = NN) := ext_length _ _ (by omega)
  have EB : Hid (∀ x ∈ ext data NN, x < 256) := ext_lt S.out.lt NN
  have HDL : Hid (n = data.length) := hdl
  clear hb hdl
  go_enter Tryd.func3, Tryd.ntmps3
  go_upto_region 9 with (first | (go_at_call 4; refine (alive_any _).mono ?_; rintro e w1 ⟨rfl, H1⟩; have S1 : Hid (Sln w1 a n data) := S.out.below H1.out) | (go_at_call 5; refine (encode_ok k m n c a data _ h1 h2 h3 hn S1 hc hc2).mono ?_; rintro e w2 ⟨gl, bs, cap, rfl, H2⟩))
  have L2 : Hid (Lst w2 gl s (shards k m data)) := by
    have h := own_lst H2.out.own H2.out.shs
    rw [← HDL.out, Hs.out] at h
    exact h
  have B2 : Hid (Below w.heap.size w w2) := H1.out.trans (H2.out.bel.mono H1.out.size)
  have S2 : Hid (Sln w2 a n data) := S1.out.below H2.out.bel
  clear H1 H2 S1 S
  obtain ⟨BB, HB⟩ : ∃ BB, Hid (w2.heap.size = BB) := ⟨_, rfl⟩
  obtain ⟨w3, hw3⟩ : ∃ w3, w3 = w2.alloc (.cells #[] 5) := ⟨_, rfl⟩
  have OW : Hid (w3.ownsRow BB 5 1 (.slice (some ⟨BB, 0, none⟩) 0 0) 0 [] ∧ Below BB w2 w3) := by
    rw [hw3, ← HB.out]
    refine ⟨⟨rfl, .inr ⟨_, 0, #[], rfl, Nat.le_refl _, ?_, Nat.le_refl _, by unfold maxLen; omega, rfl, rfl⟩⟩, (Below.refl _ _).alloc (Nat.le_refl _) _⟩
    show (w2.heap.push _)[w2.heap.size]? = _
    simp
  rw [← hw3, HB.out]
  clear hw3
  have LS : Hid ((shards k m data).length = k + m) := (by simp [shards] : (shards k m data).length = k + m)
  go_wp2
  go_loopw [43, 9] (fun ti tv wr => ∃ i g x cp : Nat, i ≤ k + m ∧ x ≤ 20000 ∧ ti = .int .i64 (i : Int) ∧ tv = .slice (some ⟨g, 0, none⟩) x cp ∧ Hid (x = min i k * s ∧ wr.ownsRow BB 5 1 (.slice (some ⟨g, 0, none⟩) x cp) x (((ext data NN).take (min i k * s)).map bv) ∧ Below BB w2 wr)) (fun ti _ _ => k + m - (intOf ti).toNat)
  case atStart => exact ⟨0, BB, 0, 0, by omega, by omega, rfl, rfl, by simp, by simpa using OW.out.1, OW.out.2⟩
  case round =>
    obtain ⟨i, g, x, cp, hi, hx, rfl, rfl, HI⟩ := hrel
    clear OW
    by_cases hlt : i < k + m
    · have LW : Lst wr gl s (shards k m data) := L2.out.below (by rw [HB.out]; exact HI.out.2.2)
      obtain ⟨bi, ci, Bi⟩ := LW.c i (by rw [LS.out]; exact hlt)
      obtain ⟨b0, c0, _⟩ := LW.c 0 (by rw [LS.out]; omega)
      have li := LW.rl i (by rw [LS.out]; exact hlt)
      have i1 : (i : Int) < (k : Int) + (m : Int) := by omega
      have i0 : (0 : Int) < (k : Int) + (m : Int) := by omega
      have i2 : (i : Int) < ((k + m : Nat) : Int) := by omega
      have i3 : (0 : Int) < ((k + m : Nat) : Int) := by omega
      by_cases hik : i < k
      · have ik : (i : Int) < (k : Int) := by omega
        have hxi : x = i * s := by have := HI.out.1; rw [Nat.min_eq_left (by omega)] at this; exact this
        have hxs : x + s = (i + 1) * s := by rw [hxi, Nat.add_mul, Nat.one_mul]
        have hle : (i + 1) * s ≤ NN := by rw [← HN.out]; exact Nat.mul_le_mul_right s (by omega)
        have own := HI.out.2.1
        rw [Nat.min_eq_left (by omega)] at own
        have hBz : BB ≤ wr.heap.size := by have := HI.out.2.2.size; rw [HB.out] at this; exact this
        obtain ⟨g', cp', w', ap, own', gr⟩ := app_sl wr BB g x cp s bi _ _ own Bi li.symm hBz (by omega)
        have e9 : (ext data NN).take (i * s) ++ (shards k m data).getD i [] = (ext data NN).take ((i + 1) * s) := by
          rw [← FD.out i (by omega), ← flat_succ (by rw [LS.out]; exact hlt), FD.out (i + 1) (by omega)]
        rw [e9] at own'
        have FIN : Hid (x + s = min (i + 1) k * s ∧ w'.ownsRow BB 5 1 (.slice (some ⟨g', 0, none⟩) (x + s) cp') (x + s) (((ext data NN).take (min (i + 1) k * s)).map bv) ∧ Below BB w2 w') := by
          rw [Nat.min_eq_left (by omega)]
          have hg := (own.lt g rfl).1
          exact ⟨hxs, own', HI.out.2.2.grown gr hBz (fun y e => by simp at e; omega)⟩
        have AP : Hid ((Builtin.append_ #[22, 22] 22 #[.slice (some ⟨g, 0, none⟩) x cp, .slice (some ⟨bi, 0, none⟩) s s]).run Tryd.prog wr = .ok (.slice (some ⟨g', 0, none⟩) (x + s) cp') w') := ap
        have hx2 : x + s ≤ 20000 := by omega
        clear ap own' gr own e9 hxs hle HI LW Bi li hxi hBz
        go_wp2_with (at_builtin; refine wpList_app (by rfl) (.tmp 58) (.tmp 59) (by rfl) (by rfl) (by rfl) (by rfl) AP ?_)
        go_roundw
        case rel => exact ⟨i + 1, g', x + s, cp', by omega, hx2, by go_num, rfl, FIN.out⟩
        case measure => simp [intOf]; omega
      · have ik : (k : Int) ≤ (i : Int) := by omega
        have FIN : Hid (x = min (i + 1) k * s ∧ wr.ownsRow BB 5 1 (.slice (some ⟨g, 0, none⟩) x cp) x (((ext data NN).take (min (i + 1) k * s)).map bv) ∧ Below BB w2 wr) := by
          have h := HI.out
          rw [Nat.min_eq_right (by omega)] at h
          rw [Nat.min_eq_right (by omega)]
          exact h
        clear HI LW Bi li
        go_wp2
        go_roundw
        case rel => exact ⟨i + 1, g, x, cp, by omega, hx, by go_num, rfl, FIN.out⟩
        case measure => simp [intOf]; omega
    · have e : i = k + m := by omega
      have hmin : min i k = k := by omega
      have h := HI.out
      rw [hmin, HN.out] at h
      have hxN := h.1
      subst hxN
      have et : (ext data x).take x = ext data x := List.take_of_length_le (by rw [EL.out]; exact Nat.le_refl _)
      rw [et] at h
      have cpx : x ≤ cp := by
        rcases h.2.1.2 with ⟨h0, _⟩ | ⟨g', cap', cur, h5, _, _, h6, _⟩
        · simp at h0
        · simp at h5; omega
      have cp2 : cp ≤ 9223372036854775807 := by
        rcases h.2.1.2 with ⟨h0, _⟩ | ⟨g', cap', cur, h5, _, _, _, h6, _⟩
        · simp at h0
        · simp at h5; unfold maxLen at h6; omega
      have SA : Hid (Sln wr (some ⟨g, 0, none⟩) x (ext data x)) := own_sln h.2.1 EB.out (by rw [EL.out]; omega)
      have SDt : Hid (Sln wr a n data) := S2.out.below (by rw [HB.out]; exact h.2.2)
      have BL : Hid (Below w.heap.size w wr) := B2.out.trans (h.2.2.mono (by have := B2.out.size; rw [HB.out] at this; exact this))
      have TK : Hid (Sln wr (some ⟨g, 0, none⟩) n data) := by
        have e5 : (ext data x).take n = data := by
          unfold ext
          rw [List.take_append_of_le_length (by rw [← HDL.out]; exact Nat.le_refl _), List.take_of_length_le (by rw [← HDL.out]; exact Nat.le_refl _)]
        have := SA.out
        refine ⟨HDL.out, SDt.out.lt, SDt.out.sli.2.1, ?_⟩
        rcases this.sli.2.2 with h0 | ⟨b, off, h7, h8, h9⟩
        · left
          have hl := EL.out
          rw [h0] at hl
          have : n = 0 := by simp at hl; omega
          exact List.eq_nil_of_length_eq_zero (by rw [← HDL.out]; exact this)
        · refine .inr ⟨b, off, h7, h8, fun j hj => ?_⟩
          have h10 := h9 j (by rw [EL.out]; rw [← HDL.out] at hj; omega)
          rw [FE.out j] at h10
          exact h10
      clear h et HI L2 S2 B2 FD LS hmin HN
      subst e
      go_wp2
      go_loop [64] (fun ti => ∃ j : Nat, j ≤ x ∧ ti = .int .i64 (j : Int)) (fun ti => x - (intOf ti).toNat)
      case atStart => exact ⟨0, by omega, rfl⟩
      case round =>
        obtain ⟨j, hj, rfl⟩ := hrel
        by_cases hjl : j < x
        · obtain ⟨bq, oq, eq1, cq⟩ := row_at SA.out hjl
          simp at eq1
          obtain ⟨rfl, rfl⟩ := eq1
          rw [FE.out j] at cq
          simp only [Nat.zero_add] at cq
          have j1 : (j : Int) < (x : Int) := by omega
          by_cases hjn : j < n
          · obtain ⟨bd, od, rfl, cd⟩ := row_at SDt.out hjn
            obtain ⟨y, Hy⟩ : ∃ y, Hid (data.getD j 0 = y) := ⟨_, rfl⟩
            rw [Hy.out] at cq cd
            have j2 : (j : Int) < (n : Int) := by omega
            go_wp2
            refine ⟨⟨_, _, _, _, ⟨j + 1, by omega, rfl⟩, rfl, rfl, rfl, ?_⟩, ?_⟩
            · go_num
            · simp [intOf]; omega
          · rw [getD_out (by rw [← HDL.out]; omega)] at cq
            have j2 : (n : Int) ≤ (j : Int) := by omega
            go_wp2
            go_round
            case rel => exact ⟨j + 1, by omega, by go_num⟩
            case measure => simp [intOf]; omega
        · have e : j = x := by omega
          subst e
          have q1 : (n : Int) ≤ (j : Int) := by omega
          have q2 : (j : Int) - (n : Int) < (k : Int) := by omega
          have q3 : (n : Int) ≤ (cp : Int) := by omega
          go_wp2_with (go_at_call 7; refine (same_n TK SDt).mono ?_; rintro e w0 ⟨rfl, h0⟩; rw [h0]; clear h0)
          go_ret
          exact ⟨rfl, BL.out⟩
set_option maxRecDepth 20000 in
theorem sys_not (k m : Int) (n c : Nat) (a : Option Addr) (w : World) (wk : (Lit.int .i64 k).wf = true) (wm : (Lit.int .i64 m).wf = true) (wn : (Lit.int .i64 (n : Int)).wf = true) (hn : n ≤ 140737488351232) (hL : ¬ Lgl k m) (E : Nat → Addr) (hE : Hid (Errs w E)) :
    Calls Tryd.prog 3 #[.int .i64 k, .int .i64 m, .slice a n c] w fun e w' => e = .returned (.bool true) ∧ Hid (Below w.heap.size w w') := by
  have HJ : Hid (errNo k m n = 3 + 1) := (by simp [errNo, hL] : errNo k m n = 3 + 1)
  have HL : Hid (¬ Lgl k m) := hL
  clear hL
  go_enter Tryd.func3, Tryd.ntmps3
  go_wp2_with (first | (go_at_call 4; refine (alive_any _).mono ?_; rintro e w1 ⟨rfl, H1⟩; have E1 : Hid (Errs w1 E) := hE.out.below H1.out) | (go_at_call 5; refine (encode_bad k m n c a wk wm wn hn 3 HJ.out _ E E1).mono ?_; rintro e w2 ⟨rfl, H2⟩; have B2 : Hid (Below w.heap.size w w2) := (by obtain ⟨q, rfl⟩ := H2.out; exact below_drewN H1.out q)) | (go_at_call 6; refine (legal_f k m wk wm HL.out _).mono ?_; rintro e w0 ⟨rfl, h0⟩; rw [h0]; clear h0))
  go_ret
  exact ⟨rfl, B2.out⟩
set_option maxRecDepth 20000 in
theorem sys_large (k m n c : Nat) (a : Option Addr) (w : World) (h1 : 1 ≤ m) (h2 : m ≤ k) (h3 : k + m ≤ 16) (wn : (Lit.int .i64 (n : Int)).wf = true) (hn : n ≤ 140737488351232) (hl : 1024 < n) (E : Nat → Addr) (hE : Hid (Errs w E)) :
    Calls Tryd.prog 3 #[.int .i64 (k : Int), .int .i64 (m : Int), .slice a n c] w fun e w' => e = .returned (.bool true) ∧ Hid (Below w.heap.size w w') := by
  have wk : (Lit.int .i64 (k : Int)).wf = true := by
    have : k < 17 := by omega
    clear h2 h3
    revert k; decide
  have wm : (Lit.int .i64 (m : Int)).wf = true := by
    have : m < 17 := by omega
    clear h2 h3 h1
    revert m; decide
  have hL : Lgl k m := ⟨by omega, by omega, by omega⟩
  have HJ : Hid (errNo k m n = 2 + 1) := (by unfold errNo; rw [if_neg (fun h => h hL), if_neg (by omega), if_pos (by omega)] : errNo k m n = 2 + 1)
  have z : (1024 : Int) < (n : Int) := by omega
  clear hL
  go_enter Tryd.func3, Tryd.ntmps3
  go_wp2_with (first | (go_at_call 4; refine (alive_any _).mono ?_; rintro e w1 ⟨rfl, H1⟩; have E1 : Hid (Errs w1 E) := hE.out.below H1.out) | (go_at_call 5; refine (encode_bad k m n c a wk wm wn hn 2 HJ.out _ E E1).mono ?_; rintro e w2 ⟨rfl, H2⟩; have B2 : Hid (Below w.heap.size w w2) := (by obtain ⟨q, rfl⟩ := H2.out; exact below_drewN H1.out q)) | (go_at_call 6; refine (legal_t k m h1 h2 h3 _).mono ?_; rintro e w0 ⟨rfl, h0⟩; rw [h0]; clear h0))
  go_ret
  exact ⟨rfl, B2.out⟩
end Go.Proofs.YtokkjdgfhpocdabDoor
