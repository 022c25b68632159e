/- The document's Write (f21). -/
import Derived.Test.YtppibcambhmomaaDoorMh
import Derived.Test.YtppibcambhmomaaDoorMIa
import Derived.Test.YtppibcambhmomaaDoorMXa
import Derived.Test.YtppibcambhmomaaDoorMCn
namespace Go.Proofs.YtppibcambhmomaaDoor
open Go.ChangeShapes Go.WideShapes Go.ChangeAt Go.RowKit
set_option maxRecDepth 20000
set_option linter.unusedVariables false
set_option linter.unusedSimpArgs false
theorem refwrite_large {w : World} {a : Option Addr} {n c : Nat} (hn : 4096 < n) :
    Calls Tryd.prog 22 #[.slice a n c] w fun e w' => e = .returned (.tuple #[.slice none 0 0,.int .i64 11]) ∧ Hid (Below w.heap.size w w') := by
  have i1 : (4096 : Int) < (n : Int) := by omega
  go_enter Tryd.func22, Tryd.ntmps22
  go_wp2
  go_ret2
  exact ⟨rfl, Below.refl _ _⟩
def WdR (w w' : World) (X : List Cx) (e : Ending) : Prop :=
  ((∃ x ∈ X, frm x.cm = false) ∧ e = .returned (.tuple #[.slice none 0 0,.int .i64 18]) ∧ Below w.heap.size w w') ∨ (∃ ys b N d, X.map Cx.cm = ys.map Nm.cm ∧ (∀ y ∈ ys, Nb y ∧ frm y.cm = true) ∧ e = .returned (.tuple #[.slice b N d,.int .i64 0]) ∧ Own w' w.heap.size b N d (sealL (wrL ys)) ∧ N ≤ 10000100 ∧ Below w.heap.size w w')
structure Wq (w W : World) (a : Option Addr) (n c : Nat) (L : List Nat) (m : Nat) : Prop where
  own : Own W w.heap.size a n c L
  bel : Below w.heap.size w W
  ln : n ≤ m
theorem Wq.below {w W W' : World} {a : Option Addr} {n c : Nat} {L : List Nat} {m : Nat} (h : Wq w W a n c L m) (hb : Below W.heap.size W W') : Wq w W' a n c L m := ⟨h.own.below hb, h.bel.trans (hb.mono h.bel.size), h.ln⟩
set_option maxHeartbeats 4000000 in
theorem refwrite_n {w : World} {a : Option Addr} {n c : Nat} {X : List Cx} (hC : Hid (Cms w 0 a n X)) (hn : n ≤ 4096) :
    Calls Tryd.prog 22 #[.slice a n c] w fun e w' => WdR w w' X e := by
  have i1 : ¬ ((4096 : Int) < (n : Int)) := by omega
  have LX : Hid (n = X.length) := hC.out.len
  have NN : Hid (n < 9223372036854775808) := by show _ < _; omega
  go_enter Tryd.func22, Tryd.ntmps22
  go_upto_region 4 with (go_at_call 25; refine (refnum_n (N := n) NN.out).mono ?_; rintro e w2 ⟨a2, n2, c2, rfl, h2⟩)
  have S2 : Hid (Wq w w2 a2 n2 c2 (enc n ++ ([] : List Nm).flatMap putL) 9) := by
    have e : enc n ++ ([] : List Nm).flatMap putL = enc n := by simp
    rw [e]
    exact ⟨h2.out.1, h2.out.2, by rw [h2.out.1.len]; exact enc_nine NN.out⟩
  clear h2
  go_wp2
  go_loopw [4, 15] (fun t4 ti wr => ∃ (i : Nat) (ai : Option Addr) (ni ci : Nat) (ys : List Nm), i ≤ n ∧ t4 = .slice ai ni ci ∧ ti = .int .i64 (i : Int) ∧ Hid (Wq w wr ai ni ci (enc n ++ ys.flatMap putL) (9 + i * 2009)) ∧ Hid ((X.take i).map Cx.cm = ys.map Nm.cm ∧ ∀ y ∈ ys, Nb y ∧ frm y.cm = true)) (fun _ ti _ => n - (intOf ti).toNat)
  case atStart => exact ⟨0, a2, n2, c2, [], by omega, rfl, rfl, S2.out, (by show _ ∧ _; exact ⟨by simp, fun y hy => by cases hy⟩)⟩
  case round =>
    obtain ⟨i, ai, ni, ci, ys, hi, rfl, rfl, S, HY⟩ := hrel
    clear S2
    by_cases hlt : i < n
    · have i2 : (i : Int) < (n : Int) := by omega
      have CR : Hid (Cms wr 0 a n X) := hC.out.below S.out.bel
      have iX : i < X.length := by have := LX.out; omega
      obtain ⟨b, o, rfl, R1⟩ := CR.out.at_ iX
      obtain ⟨x, Hx⟩ : ∃ x, Hid (X[i] = x) := ⟨X[i], (rfl : X[i] = X[i])⟩
      have MX : x ∈ X := by rw [← Hx.out]; exact List.getElem_mem iX
      rw [Hx.out] at R1
      obtain ⟨A, HA⟩ : ∃ A, Hid (A = (encX x).toArray) := ⟨_, rfl⟩
      have a18 : A.size = 18 := encX_sz HA.out
      have RA : wr.rangeAt b (o + i * 18) A.toList := by rw [HA.out]; exact R1
      have PX : Hid (Irow wr 0 x.pa x.pn x.cm.ps) := (CR.out.ps x MX).1
      have ST : Hid (x.cm.bu.size ≤ 281474976710656 ∧ x.cm.ke.size ≤ 281474976710656 ∧ x.cm.et.size ≤ 281474976710656) := CR.out.st x MX
      have TK : Hid (X.take (i + 1) = X.take i ++ [x]) := by
        show _ = _
        rw [List.take_succ_eq_append_getElem iX, Hx.out]
      have HMX : Hid (x ∈ X) := MX
      clear R1 MX
      obtain ⟨g6, Hg6⟩ : ∃ g, Hid (wr.heap.size = g) := ⟨_, rfl⟩
      obtain ⟨w6, Hw6⟩ : ∃ W, Hid ((wr.alloc (.cells #[.int .i64 0,.int .i64 0,.int .i64 0,.int .i64 0,.string ⟨#[]⟩,.string ⟨#[]⟩,.int .i64 0,.int .i64 0,.int .i64 0,.int .i64 0,.int .i64 0,.int .i64 0,.int .i64 0,.string ⟨#[]⟩,.int .i64 0,.slice none 0 0,.int .i64 0,.int .i64 0] 60)).setRow wr.heap.size A = W) := ⟨_, rfl⟩
      have b6 : Hid (Below wr.heap.size wr w6) := by rw [← Hw6.out]; exact below_setRow (alloc1 wr _) (Nat.le_refl _) A
      have k6 : Hid (w6.heap[g6]? = some (.cells A 60 (0, 0))) := by rw [← Hw6.out, ← Hg6.out]; exact setRow_heap _ _ _ _ _ _ (heap_alloc_new wr _)
      have S6 : Hid (Wq w w6 ai ni ci (enc n ++ ys.flatMap putL) (9 + i * 2009)) := S.out.below b6.out
      have P6 : Hid (Irow w6 0 x.pa x.pn x.cm.ps) := PX.out.below b6.out
      go_upto_region 7 with first
        | (refine wpList_load_mid (by rfl) 60 (.tmp 17) (by rfl) b (o + i * 18) (by rfl) _ _ RA Tryd.underlying60 rfl (by rw [Array.length_toList]; exact info28 a18) ?_)
        | (refine wpList_store_row (by rfl) 60 (.tmp 6) (.tmp 18) (by rfl) wr.heap.size A (by rfl) (by rfl) 60 _ (heap_alloc_new wr _) (info28 a18) a18.symm (encX_all HA.out) ?_)
      rw [Hw6.out, Hg6.out]
      try simp only [Act.put]
      clear Hw6 Hg6 RA PX CR
      obtain ⟨fr0, Hfr⟩ : ∃ b, Hid (frm x.cm = b) := ⟨_, rfl⟩
      cases fr0
      · go_upto_region 8 with first
          | (refine wpList_load_row (by rfl) 60 (.tmp 6) (by rfl) g6 (by rfl) 60 A (0, 0) _ k6.out Tryd.underlying60 rfl (info28 a18) ?_)
          | (go_at_call 45; refine (inf_x HA P6 ST).mono ?_; rintro e w7 ⟨rfl, h7⟩; rw [Hfr.out])
        go_wp2
        go_ret2
        exact .inl ⟨⟨x, HMX.out, Hfr.out⟩, rfl, S6.out.bel.trans (h7.out.mono S6.out.bel.size)⟩
      · obtain ⟨y, hy, hyb⟩ := frm_nat Hfr.out
        have HYc : Hid (x.cm = y.cm) := hy
        have HYb : Hid (Nb y) := hyb
        have HF : Hid (frm y.cm = true) := by rw [← HYc.out]; exact Hfr.out
        clear hy hyb
        go_upto_region 9 with first
          | (refine wpList_load_row (by rfl) 60 (.tmp 6) (by rfl) g6 (by rfl) 60 A (0, 0) _ k6.out Tryd.underlying60 rfl (info28 a18) ?_)
          | (go_at_call 45; refine (inf_x HA P6 ST).mono ?_; rintro e w7 ⟨rfl, h7⟩; rw [Hfr.out])
        have S7 : Hid (Wq w w7 ai ni ci (enc n ++ ys.flatMap putL) (9 + i * 2009)) := S6.out.below h7.out
        have P7 : Hid (Irow w7 0 x.pa x.pn x.cm.ps) := P6.out.below h7.out
        have k7 : Hid (w7.heap[g6]? = some (.cells A 60 (0, 0))) := (h7.out.block g6 (Array.getElem?_eq_some_iff.1 k6.out).1).trans k6.out
        clear h7 S6 P6 k6
        go_wp2_with first
          | (refine wpList_load_row (by rfl) 60 (.tmp 6) (by rfl) g6 (by rfl) 60 A (0, 0) _ k7.out Tryd.underlying60 rfl (info28 a18) ?_)
          | (go_at_call 46; refine (refputx_yes HA P7 HYc HYb).mono ?_; rintro e w8 ⟨ab, nb, cb, rfl, h8⟩
             have SB : Hid (Sln w8 ab nb y.by) := h8.out.1.sln (by have := h8.out.2.2; omega)
             have ZB : Hid (ab = none → cb = 0) := h8.out.1.cap0
             have NB : Hid (nb = y.by.length) := h8.out.1.len
             have nb2 : nb + 9 ≤ 140737488352256 := by have := h8.out.2.2; omega
             have S8 : Hid (Wq w w8 ai ni ci (enc n ++ ys.flatMap putL) (9 + i * 2009)) := S7.out.below h8.out.2.1)
          | (go_at_call 26; refine (refbytes_n SB ZB nb2).mono ?_; rintro e w9 ⟨ac, mc, cc, rfl, h9⟩
             have S9 : Hid (Wq w w9 ai ni ci (enc n ++ ys.flatMap putL) (9 + i * 2009)) := S8.out.below h9.out.2
             have ML : Hid (mc ≤ 2009) := by
               have h1 := h9.out.1.len
               have h2 := putL_len HYb.out
               unfold putL at h2
               rw [NB.out] at h1
               show _ ≤ _
               omega
             have LI : Hid (ni ≤ 9 + 4096 * 2009) := by have := S9.out.ln; show _ ≤ _; omega
             obtain ⟨a10, c10, w10, hrun, own10, gr10, nw10⟩ := app_any (c2 := cc) S9.out.own (h9.out.1.sln (by have := ML.out; omega)) h9.out.1.cap0 (by have := ML.out; have := LI.out; omega) S9.out.bel.size
             have AP : Hid ((Builtin.append_ #[27, 27] 27 #[.slice ai ni ci,.slice ac mc cc]).run Tryd.prog w9 = .ok (.slice a10 (ni + mc) c10) w10) := hrun
             have S10 : Hid (Wq w w10 a10 (ni + mc) c10 (enc n ++ (ys ++ [y]).flatMap putL) (9 + (i + 1) * 2009)) := by
               have e : enc n ++ ys.flatMap putL ++ (enc nb ++ y.by) = enc n ++ (ys ++ [y]).flatMap putL := by
                 rw [NB.out]
                 simp [putL]
               rw [← e]
               refine ⟨own10, S9.out.bel.trans (grown_below gr10 S9.out.bel.size (fun d hd => (S9.out.own.ge d hd).1)), ?_⟩
               have h1 := S9.out.ln
               have h2 := ML.out
               omega
             clear hrun own10 gr10 nw10)
          | (at_builtin; refine wpList_app (by rfl) (.tmp 22) (.tmp 25) (by rfl) (by rfl) (by rfl) (by rfl) AP ?_)
        go_roundw
        case rel =>
          refine ⟨i + 1, a10, ni + mc, c10, ys ++ [y], by omega, rfl, by go_num, S10.out, (by
            show _ ∧ _
            refine ⟨by rw [TK.out, List.map_append, List.map_append, HY.out.1]; simp [HYc.out], fun z hz => ?_⟩
            rcases List.mem_append.1 hz with h | h
            · exact HY.out.2 z h
            · obtain rfl := List.mem_singleton.1 h
              exact ⟨HYb.out, HF.out⟩)⟩
        case measure => simp [intOf]; omega
    · obtain rfl : i = n := by omega
      have HE2 : Hid (X.map Cx.cm = ys.map Nm.cm) := by
        have h := HY.out.1
        rwa [List.take_of_length_le (by have := LX.out; omega)] at h
      have LY : Hid (ys.length = i) := by
        have h := congrArg List.length HE2.out
        simp at h
        have := LX.out
        show _ = _
        omega
      have WE : Hid (enc i ++ ys.flatMap putL = wrL ys) := by
        show _ = _
        unfold wrL
        rw [LY.out]
      have S' : Hid (Wq w wr ai ni ci (wrL ys) (9 + i * 2009)) := by rw [← WE.out]; exact S.out
      have NB9 : Hid (ni ≤ 9 + 4096 * 2009) := by have := S'.out.ln; show _ ≤ _; omega
      have SB : Hid (Sln wr ai ni (wrL ys)) := S'.out.own.sln (by have := NB9.out; omega)
      have ZB : Hid (ai = none → ci = 0) := S'.out.own.cap0
      have nb4 : ni + 4 ≤ 140737488352256 := by have := NB9.out; omega
      clear hlt
      go_wp2_with (go_at_call 27; refine (refseal_n SB ZB nb4).mono ?_; rintro e w7 ⟨a7, N7, c7, rfl, h7⟩)
      go_ret2
      exact .inr ⟨ys, a7, N7, c7, HE2.out, HY.out.2, rfl, h7.out.2.1.le S'.out.bel.size, by have := h7.out.1; have := NB9.out; omega, S'.out.bel.trans (h7.out.2.2.mono S'.out.bel.size)⟩
end Go.Proofs.YtppibcambhmomaaDoor
namespace Go.Proofs.YtppibcambhmomaaDoor
open Go.ChangeShapes Go.WideShapes Go.ChangeAt Go.RowKit
set_option maxRecDepth 20000
set_option linter.unusedVariables false
set_option linter.unusedSimpArgs false
theorem mapc_inj : ∀ {a b : List Nat}, a.map (fun y : Nat => (y : Int)) = b.map (fun y : Nat => (y : Int)) → a = b
  | [], [], _ => rfl
  | [], _ :: _, h => by simp at h
  | _ :: _, [], h => by simp at h
  | x :: a, y :: b, h => by
    simp only [List.map_cons, List.cons.injEq] at h
    rw [mapc_inj h.2, show x = y by omega]
theorem cm_inj {x y : Nm} (h : x.cm = y.cm) : x = y := by
  obtain ⟨K, I0, I1, I2, bu, ke, U0, U1, U2, B0, B1, B2, SZ, et, PT, PS, TM, DY⟩ := x
  obtain ⟨K', I0', I1', I2', bu', ke', U0', U1', U2', B0', B1', B2', SZ', et', PT', PS', TM', DY'⟩ := y
  unfold Nm.cm at h
  simp only [Cm.mk.injEq] at h
  obtain ⟨h1, h2, h3, h4, h5, h6, h7, h8, h9, h10, h11, h12, h13, h14, h15, h16, h17, h18⟩ := h
  have e : PS = PS' := mapc_inj h16
  subst e h5 h6 h14
  simp only [Nm.mk.injEq, true_and]
  omega
theorem led_cm (Y : List Cx) : led Y = Y.map Cx.cm := rfl
theorem mapcm_inj : ∀ {a b : List Nm}, a.map Nm.cm = b.map Nm.cm → a = b
  | [], [], _ => rfl
  | [], _ :: _, h => by simp at h
  | _ :: _, [], h => by simp at h
  | x :: a, y :: b, h => by
    simp only [List.map_cons, List.cons.injEq] at h
    rw [mapcm_inj h.2, cm_inj h.1]
theorem write_no {w : World} {M : Nat → Prop} {E : Nat → Addr} {a : Option Addr} {n c : Nat} {X : List Cx} (hE : Hid (Sent w M E)) (hM0 : M 0) (hC : Hid (Cms w 0 a n X)) (hn : n ≤ 4096) (hb : Hid (∃ x ∈ X, frm x.cm = false)) :
    Calls Tryd.prog 16 #[.slice a n c] w fun e w' => e = .returned (.tuple #[.slice none 0 0, er (E 0)]) ∧ Hid (Below w.heap.size w w') := by
  refine (write_n hE hM0 hC hn).mono ?_
  rintro e w' (⟨_, h1, h2⟩ | ⟨ys, g, N, h1, h2, _⟩)
  · exact ⟨h1, h2⟩
  · obtain ⟨x, hx, hf⟩ := hb.out
    have hm : x.cm ∈ X.map Cx.cm := List.mem_map.2 ⟨x, hx, rfl⟩
    rw [h1] at hm
    obtain ⟨y, hy, e⟩ := List.mem_map.1 hm
    rw [← e, (h2 y hy).2] at hf
    cases hf
theorem write_yes {w : World} {M : Nat → Prop} {E : Nat → Addr} {a : Option Addr} {n c : Nat} {X : List Cx} {ys : List Nm} (hE : Hid (Sent w M E)) (hM0 : M 0) (hC : Hid (Cms w 0 a n X)) (hn : n ≤ 4096) (hy : Hid (X.map Cx.cm = ys.map Nm.cm)) (ha : Hid (∀ y ∈ ys, Nb y ∧ frm y.cm = true)) :
    Calls Tryd.prog 16 #[.slice a n c] w fun e w' => ∃ g N, e = .returned (.tuple #[.slice (some ⟨g, 0, none⟩) N N, .nilIface]) ∧ Hid (Blk w' g (sealL (wrL ys)) ∧ N = (wrL ys).length + 4 ∧ Below w.heap.size w w') := by
  refine (write_n hE hM0 hC hn).mono ?_
  rintro e w' (⟨⟨x, hx, hf⟩, _⟩ | ⟨zs, g, N, h1, h2, h3, h4, h5, h6⟩)
  · have hm : x.cm ∈ X.map Cx.cm := List.mem_map.2 ⟨x, hx, rfl⟩
    rw [hy.out] at hm
    obtain ⟨y, hy, e⟩ := List.mem_map.1 hm
    rw [← e, (ha.out y hy).2] at hf
    cases hf
  · obtain rfl := mapcm_inj (h1.symm.trans hy.out)
    exact ⟨g, N, h3, h4, h5, h6⟩
theorem refwrite_no {w : World} {a : Option Addr} {n c : Nat} {X : List Cx} (hC : Hid (Cms w 0 a n X)) (hn : n ≤ 4096) (hb : Hid (∃ x ∈ X, frm x.cm = false)) :
    Calls Tryd.prog 22 #[.slice a n c] w fun e w' => e = .returned (.tuple #[.slice none 0 0,.int .i64 18]) ∧ Hid (Below w.heap.size w w') := by
  refine (refwrite_n hC hn).mono ?_
  rintro e w' (⟨_, h1, h2⟩ | ⟨ys, b, N, d, h1, h2, _⟩)
  · exact ⟨h1, h2⟩
  · obtain ⟨x, hx, hf⟩ := hb.out
    have hm : x.cm ∈ X.map Cx.cm := List.mem_map.2 ⟨x, hx, rfl⟩
    rw [h1] at hm
    obtain ⟨y, hy, e⟩ := List.mem_map.1 hm
    rw [← e, (h2 y hy).2] at hf
    cases hf
theorem refwrite_yes {w : World} {a : Option Addr} {n c : Nat} {X : List Cx} {ys : List Nm} (hC : Hid (Cms w 0 a n X)) (hn : n ≤ 4096) (hy : Hid (X.map Cx.cm = ys.map Nm.cm)) (ha : Hid (∀ y ∈ ys, Nb y ∧ frm y.cm = true)) :
    Calls Tryd.prog 22 #[.slice a n c] w fun e w' => ∃ b N d, e = .returned (.tuple #[.slice b N d,.int .i64 0]) ∧ Hid (Own w' w.heap.size b N d (sealL (wrL ys)) ∧ N ≤ 10000100 ∧ Below w.heap.size w w') := by
  refine (refwrite_n hC hn).mono ?_
  rintro e w' (⟨⟨x, hx, hf⟩, _⟩ | ⟨zs, b, N, d, h1, h2, h3, h4, h5, h6⟩)
  · have hm : x.cm ∈ X.map Cx.cm := List.mem_map.2 ⟨x, hx, rfl⟩
    rw [hy.out] at hm
    obtain ⟨y, hy, e⟩ := List.mem_map.1 hm
    rw [← e, (ha.out y hy).2] at hf
    cases hf
  · obtain rfl := mapcm_inj (h1.symm.trans hy.out)
    exact ⟨b, N, d, h3, h4, h5, h6⟩
theorem bad_led {X Y : List Cx} (h : led Y = led X) (hb : ∃ x ∈ X, frm x.cm = false) : ∃ x ∈ Y, frm x.cm = false := by
  obtain ⟨x, hx, hf⟩ := hb
  have hm : x.cm ∈ led X := by rw [led_cm]; exact List.mem_map.2 ⟨x, hx, rfl⟩
  rw [← h, led_cm] at hm
  obtain ⟨y, hy, e⟩ := List.mem_map.1 hm
  exact ⟨y, hy, by rw [e]; exact hf⟩
theorem nil_conv (w : World) : (convert 27 9 (.slice none 0 0)).run Tryd.prog w = .ok (.string (spell [])) w := conv_n (show Hid (Sln w none 0 []) from ⟨rfl, by simp, by simp, .inl rfl⟩)
theorem opn_seal (l : List Nat) : opn (sealL l) = (l, 0) := by
  have h4 : (sealL l).length = l.length + 4 := by unfold sealL; simp [be4]
  have ht : (sealL l).take ((sealL l).length - 4) = l := by rw [h4, Nat.add_sub_cancel]; unfold sealL; exact List.take_left
  rw [opn_ok (by omega) (by rw [ht]), ht]
theorem frm_all {X : List Cx} (h : ∀ x ∈ X, frm x.cm = true) : ∃ ys : List Nm, X.map Cx.cm = ys.map Nm.cm ∧ ∀ y ∈ ys, Nb y ∧ frm y.cm = true := by
  induction X with
  | nil => exact ⟨[], rfl, fun y hy => by cases hy⟩
  | cons x X ih =>
    obtain ⟨ys, h1, h2⟩ := ih (fun z hz => h z (List.mem_cons_of_mem _ hz))
    have hx := h x (List.mem_cons_self ..)
    obtain ⟨y, hy, hb⟩ := frm_nat hx
    refine ⟨y :: ys, by simp [h1, hy], fun z hz => ?_⟩
    rcases List.mem_cons.1 hz with rfl | hz
    · exact ⟨hb, by rw [← hy]; exact hx⟩
    · exact h2 z hz
end Go.Proofs.YtppibcambhmomaaDoor
