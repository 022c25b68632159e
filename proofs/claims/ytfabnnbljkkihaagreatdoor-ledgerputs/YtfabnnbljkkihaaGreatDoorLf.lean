/- A ledger's copy: copied (f36). -/
import Derived.Test.YtfabnnbljkkihaaGreatDoorLe
import Derived.Laws.MakeOwn
namespace Go.Proofs.YtfabnnbljkkihaaGreatDoor
open Go.ChangeShapes Go.WideShapes Go.ChangeAt Go.RowKit
set_option maxRecDepth 20000
set_option linter.unusedVariables false
set_option linter.unusedSimpArgs false
theorem fold18 {A : Array Value} {x : Cx} (h : A = (encX x).toArray) : Array.foldl (fun cs (x : Value × Nat) => cs.setIfInBounds x.snd x.fst) #[.int .i64 0, .int .i64 0, .int .i64 0, .int .i64 0, .string ⟨#[]⟩, .string ⟨#[]⟩, .int .i64 0, .int .i64 0, .int .i64 0, .int .i64 0, .int .i64 0, .int .i64 0, .int .i64 0, .string ⟨#[]⟩, .int .i64 0, .slice none 0 0, .int .i64 0, .int .i64 0] A.zipIdx 0 18 = A := by
  obtain ⟨⟨k, i0, i1, i2, bu, ke, u0, u1, u2, b0, b1, b2, sz, et, pt, ps, tm, dy⟩, pa, pn, pc⟩ := x
  subst h
  kernel_rfl
theorem oc_snoc {W : World} {lo lo2 : Nat} {a' : Option Addr} {i c' : Nat} {Y : List Cx} {y : Cx} {g : Nat} (hY : Oc W lo a' i c' Y) (hg : W.heap[g]? = some (.cells (encX y).toArray 29 (0, 0))) (hp : W.ownsRow lo2 3 1 (.slice y.pa y.pn y.pc) y.pn (y.cm.ps.map iv)) (hpn : y.pn ≤ 17592186043904) (hl : lo ≤ lo2) (hs : y.cm.bu.size ≤ 281474976710656 ∧ y.cm.ke.size ≤ 281474976710656 ∧ y.cm.et.size ≤ 281474976710656) (hb : i + 1 ≤ 764877654082) (hlo : lo ≤ W.heap.size) :
    ∃ a6 c6 w6, (Builtin.append_ #[22, 22] 22 #[.slice a' i c', .slice (some ⟨g, 0, none⟩) 1 1]).run Tryz.prog W = .ok (.slice a6 (i + 1) c6) w6 ∧ Oc w6 lo a6 (i + 1) c6 (Y ++ [y]) ∧ Below lo W w6 := by
  obtain ⟨a6, c6, w6, AR0, OR0, GR0⟩ := app_cm (c := 1) (X := [y]) (a := some ⟨g, 0, none⟩) (n := 1) hY.row rfl (.inr ⟨g, 0, rfl, by have := range_blk hg; simpa [flat] using this⟩) (by simp) (by omega) hlo
  rw [ownBlock_slice] at GR0
  refine ⟨a6, c6, w6, AR0, ⟨OR0, by omega, fun z hz => ?_, fun z hz => ?_⟩, grown_below GR0 hlo (fun q e => (hY.row.lt q (by rw [ownBlock_slice]; exact e)).1)⟩
  · rcases List.mem_append.1 hz with h | h
    · exact hY.grown GR0 z h
    · obtain rfl := List.mem_singleton.1 h
      refine ⟨rown_mono (rown_bel hp (fun q e => GR0.block q (hp.lt q e).2 (fun e2 => ?_))) hl, hpn⟩
      exact rown_ne hp hY.row (by decide) e (by rw [ownBlock_slice]; exact e2.symm)
  · rcases List.mem_append.1 hz with h | h
    · exact hY.st z h
    · obtain rfl := List.mem_singleton.1 h
      exact hs
set_option maxHeartbeats 8000000 in
theorem copied_n {w : World} {lo lo2 : Nat} {a b : Option Addr} {n m c d : Nat} {X M : List Cx} (hA : Hid (Cms w lo a n X)) (hM : Hid (Cms w lo2 b m M)) (hnm : n + m ≤ 764877654082) :
    Calls Tryz.prog 36 #[.slice a n c, .slice b m d] w fun e w' => ∃ a' c', e = .returned (.slice a' (n + m) c') ∧ Hid (∃ Y, led Y = led X ++ led M ∧ Oc w' w.heap.size a' (n + m) c' Y ∧ Below w.heap.size w w') := by
  have SZ : Hid (n + m ≤ 764877654082) := hnm
  have hn : n ≤ 764877654082 := by omega
  have hm : m ≤ 764877654082 := by omega
  have LX : Hid (n = X.length) := hA.out.len
  have LM : Hid (m = M.length) := hM.out.len
  obtain ⟨w1, MK, O1⟩ : ∃ w1, Hid ((Instr.makeSlice 22 (.int .i64 0) (.int .i64 ((n : Int) + (m : Int)))).run Tryz.prog w = .ok (.slice (some ⟨w.heap.size, 0, none⟩) 0 (n + m)) w1) ∧ Hid (Oc w1 w.heap.size (some ⟨w.heap.size, 0, none⟩) 0 (n + m) [] ∧ Below w.heap.size w w1) := by
    obtain ⟨i, hi, hz0, hz1, hz2⟩ := info_parts info81
    obtain ⟨w1, h1, h2, h3⟩ := run_make_own (P := Tryz.prog) (w := w) w.heap.size 22 29 i _ 18 Tryz.underlying22 hi hz0 hz1 .i64 .i64 (n + m) (by rw [hz2]; omega) (by unfold maxLen; omega) (Nat.le_refl _)
    rw [Int.natCast_add] at h1
    exact ⟨w1, h1, ⟨h2, by omega, (fun x hx => by cases hx), (fun x hx => by cases hx)⟩, grown_below h3 (Nat.le_refl _) (fun q e => by cases e)⟩
  have mk := MK.out
  go_enter Tryz.func36, Tryz.ntmps36
  go_wp2
  clear mk MK
  obtain ⟨g0, Hg0⟩ : ∃ g, Hid (w.heap.size = g) := ⟨_, rfl⟩
  rw [Hg0.out]
  go_loopw [5, 18] (fun t5 t18 wr => ∃ (i : Nat) (a' : Option Addr) (c' : Nat), i ≤ n ∧ t18 = .int .i64 i ∧ t5 = .slice a' i c' ∧ Hid (∃ Y, led Y = led (X.take i) ∧ Oc wr w.heap.size a' i c' Y ∧ Below w.heap.size w wr)) (fun _ t18 _ => n - (intOf t18).toNat)
  case atStart => exact ⟨0, some ⟨g0, 0, none⟩, n + m, by omega, rfl, rfl, [], rfl, by rw [← Hg0.out]; exact O1.out.1, O1.out.2⟩
  case round =>
    obtain ⟨i, a', c', hi, rfl, rfl, HC⟩ := hrel
    clear O1 Hg0
    by_cases hlt : i < n
    · have i3 : (i : Int) < (n : Int) := by omega
      have kx : i < X.length := by rw [← LX.out]; exact hlt
      obtain ⟨Y, HL0, HY0, HB0⟩ := HC.out
      clear HC
      have HL : Hid (led Y = led (X.take i)) := HL0
      have HY : Hid (Oc wr w.heap.size a' i c' Y) := HY0
      have HB : Hid (Below w.heap.size w wr) := HB0
      clear HL0 HY0 HB0
      obtain ⟨b1, o1, rfl, e1⟩ := (hA.out.below HB.out).at_ kx
      obtain ⟨x, Hx⟩ : ∃ x, Hid (X[i] = x) := ⟨X[i], (rfl : X[i] = X[i])⟩
      rw [Hx.out] at e1
      have EX : Hid (X[i]? = some x) := by show _ = _; rw [← Hx.out]; exact List.getElem?_eq_getElem kx
      have MX : x ∈ X := List.mem_of_getElem? EX.out
      have PX : Hid (Irow wr lo x.pa x.pn x.cm.ps) := (hA.out.ps x MX).1.below HB.out
      have ZX : Hid (x.pa = none → x.pc = 0) := (hA.out.ps x MX).2
      have ST : Hid (x.cm.bu.size ≤ 281474976710656 ∧ x.cm.ke.size ≤ 281474976710656 ∧ x.cm.et.size ≤ 281474976710656) := hA.out.st x MX
      clear MX
      obtain ⟨A, HA⟩ : ∃ A, Hid (A = (encX x).toArray) := ⟨_, rfl⟩
      have a18 : A.size = 18 := encX_sz HA.out
      have AA : Hid (A.all (·.oneCell') = true) := encX_all HA.out
      have E1 : Hid (wr.rangeAt b1 (o1 + i * 18) (encX x)) := e1
      clear e1
      obtain ⟨w2, Hw2, K2⟩ := box_new wr A
      obtain ⟨g1, Hg1⟩ : ∃ g, Hid (wr.heap.size = g) := ⟨_, rfl⟩
      go_upto_region 5 with first
        | (refine wpList_ldA (by rfl) (.tmp 20) (by rfl) b1 (o1 + i * 18) (by rfl) HA.out E1.out ?_)
        | (refine wpList_store_row (by rfl) 29 (.tmp 7) (.tmp 21) (by rfl) wr.heap.size A (by rfl) (by rfl) 29 _ (heap_alloc_new wr _) (info29 a18) a18.symm AA.out ?_)
      rw [Hw2.out, Hg1.out]
      have k1 : Hid (w2.heap[g1]? = some (.cells A 29 (0, 0))) := by rw [← Hg1.out]; exact K2.out.1
      have B2 : Hid (Below wr.heap.size wr w2) := K2.out.2.1
      have P2 : Hid (Irow w2 lo x.pa x.pn x.cm.ps) := PX.out.below B2.out
      have Y2 : Hid (Oc w2 w.heap.size a' i c' Y) := HY.out.below B2.out
      clear K2 Hw2 Hg1 E1 HY
      go_wp2_with (first
        | (refine wpList_load_row (by rfl) 29 (.tmp 7) (by rfl) g1 (by rfl) 29 A (0, 0) _ k1.out Tryz.underlying29 rfl (info29 a18) ?_)
        | (go_at_call 60; refine (copyCmd_n HA P2 ZX ST).mono ?_; rintro e w3 ⟨B, rfl, H3⟩
           obtain ⟨y, hy1, hy2, hy3, hy4, hy5⟩ := H3.out
           have HBY : Hid (B = (encX y).toArray) := hy1
           have b18 : B.size = 18 := encX_sz hy1
           obtain ⟨g4, Hg4⟩ : ∃ g, Hid (w3.heap.size = g) := ⟨_, rfl⟩
           obtain ⟨w4, Hw4⟩ : ∃ W, Hid (w3.alloc (.cells B 29) = W) := ⟨_, rfl⟩
           have b4 : Below w3.heap.size w3 w4 := (by rw [← Hw4.out]; exact alloc1 w3 _)
           have k4 : w4.heap[g4]? = some (.cells (encX y).toArray 29 (0, 0)) := (by rw [← Hw4.out, ← Hg4.out, ← hy1]; exact heap_alloc_new w3 _)
           have Y4 : Oc w4 w.heap.size a' i c' Y := (Y2.out.below hy5).below b4
           have Q4 : w4.ownsRow w2.heap.size 3 1 (.slice y.pa y.pn y.pc) y.pn (y.cm.ps.map iv) := rown_bel hy3 (fun q e => b4.block q (hy3.lt q e).2)
           have L4 : w.heap.size ≤ w2.heap.size := Nat.le_trans HB.out.size B2.out.size
           obtain ⟨a6, c6, w6, AR0, O6, B6⟩ := oc_snoc Y4 k4 Q4 hy4 L4 (by rw [hy2]; exact ST.out) (by have := SZ.out; omega) (Nat.le_trans (Nat.le_trans L4 hy5.size) b4.size)
           have AR : Hid ((Builtin.append_ #[22, 22] 22 #[.slice a' i c', .slice (some ⟨g4, 0, none⟩) 1 1]).run Tryz.prog w4 = .ok (.slice a6 (i + 1) c6) w6) := AR0
           have FIN : Hid (∃ Y, led Y = led (X.take (i + 1)) ∧ Oc w6 w.heap.size a6 (i + 1) c6 Y ∧ Below w.heap.size w w6) := ⟨Y ++ [y], (by rw [led_snoc EX.out, ← HL.out, ← hy2]; simp [led]), O6, ((HB.out.trans (B2.out.mono HB.out.size)).trans ((hy5.trans (b4.mono hy5.size)).mono L4)).trans B6⟩
           have FD : Hid (Array.foldl (fun cs (x : Value × Nat) => cs.setIfInBounds x.snd x.fst) #[.int .i64 0, .int .i64 0, .int .i64 0, .int .i64 0, .string ⟨#[]⟩, .string ⟨#[]⟩, .int .i64 0, .int .i64 0, .int .i64 0, .int .i64 0, .int .i64 0, .int .i64 0, .int .i64 0, .string ⟨#[]⟩, .int .i64 0, .slice none 0 0, .int .i64 0, .int .i64 0] B.zipIdx 0 18 = B) := fold18 HBY.out
           clear hy1 hy2 hy3 hy4 hy5 H3 b4 k4 Y4 Q4 L4 AR0 O6 B6)
        | (at_builtin; rw [FD.out, Hw4.out, Hg4.out]; refine wpList_appt (by rfl) (.tmp 22) (.tmp 25) (by rfl) (by rfl) (by rfl) (by rfl) AR ?_))
      go_roundw
      case rel => exact ⟨i + 1, a6, c6, by omega, by go_num, rfl, FIN.out⟩
      case measure => simp [intOf]; omega
    · have ein : i = n := by omega
      subst ein
      have HC2 : Hid (∃ Y, led Y = led X ∧ Oc wr w.heap.size a' i c' Y ∧ Below w.heap.size w wr) := by
        obtain ⟨Y, h1, h2, h3⟩ := HC.out
        exact ⟨Y, by rw [h1, List.take_of_length_le (by have := LX.out; omega)], h2, h3⟩
      clear HC
      obtain ⟨v1, Hv1⟩ : ∃ v, Hid (wr = v) := ⟨_, rfl⟩
      go_wp2
      go_loopw [5, 30] (fun t5 t30 wr => ∃ (j : Nat) (a' : Option Addr) (c' m' : Nat), j ≤ m ∧ t30 = .int .i64 j ∧ t5 = .slice a' m' c' ∧ Hid (m' = i + j) ∧ Hid (∃ Y, led Y = led X ++ led (M.take j) ∧ Oc wr w.heap.size a' m' c' Y ∧ Below w.heap.size w wr)) (fun _ t30 _ => m - (intOf t30).toNat)
      case atStart => exact ⟨0, a', c', i, by omega, rfl, rfl, rfl, by obtain ⟨Y, h1, h2⟩ := HC2.out; exact ⟨Y, by rw [h1]; simp [led], h2⟩⟩
      case round =>
        obtain ⟨j, a', c', m', hj, rfl, rfl, HM', HC⟩ := hrel
        by_cases hlt : j < m
        · have i3 : (j : Int) < (m : Int) := by omega
          have kx : j < M.length := by rw [← LM.out]; exact hlt
          obtain ⟨Y, HL0, HY0, HB0⟩ := HC.out
          clear HC
          have HL : Hid (led Y = led X ++ led (M.take j)) := HL0
          have HY : Hid (Oc wr w.heap.size a' m' c' Y) := HY0
          have HB : Hid (Below w.heap.size w wr) := HB0
          clear HL0 HY0 HB0
          obtain ⟨b1, o1, rfl, e1⟩ := (hM.out.below HB.out).at_ kx
          obtain ⟨x, Hx⟩ : ∃ x, Hid (M[j] = x) := ⟨M[j], (rfl : M[j] = M[j])⟩
          rw [Hx.out] at e1
          have EX : Hid (M[j]? = some x) := by show _ = _; rw [← Hx.out]; exact List.getElem?_eq_getElem kx
          have MX : x ∈ M := List.mem_of_getElem? EX.out
          have PX : Hid (Irow wr lo2 x.pa x.pn x.cm.ps) := (hM.out.ps x MX).1.below HB.out
          have ZX : Hid (x.pa = none → x.pc = 0) := (hM.out.ps x MX).2
          have ST : Hid (x.cm.bu.size ≤ 281474976710656 ∧ x.cm.ke.size ≤ 281474976710656 ∧ x.cm.et.size ≤ 281474976710656) := hM.out.st x MX
          clear MX
          obtain ⟨A, HA⟩ : ∃ A, Hid (A = (encX x).toArray) := ⟨_, rfl⟩
          have a18 : A.size = 18 := encX_sz HA.out
          have AA : Hid (A.all (·.oneCell') = true) := encX_all HA.out
          have E1 : Hid (wr.rangeAt b1 (o1 + j * 18) (encX x)) := e1
          clear e1
          obtain ⟨w2, Hw2, K2⟩ := box_new wr A
          obtain ⟨g1, Hg1⟩ : ∃ g, Hid (wr.heap.size = g) := ⟨_, rfl⟩
          go_upto_region 10 with first
            | (refine wpList_ldA (by rfl) (.tmp 32) (by rfl) b1 (o1 + j * 18) (by rfl) HA.out E1.out ?_)
            | (refine wpList_store_row (by rfl) 29 (.tmp 9) (.tmp 33) (by rfl) wr.heap.size A (by rfl) (by rfl) 29 _ (heap_alloc_new wr _) (info29 a18) a18.symm AA.out ?_)
          rw [Hw2.out, Hg1.out]
          have k1 : Hid (w2.heap[g1]? = some (.cells A 29 (0, 0))) := by rw [← Hg1.out]; exact K2.out.1
          have B2 : Hid (Below wr.heap.size wr w2) := K2.out.2.1
          have P2 : Hid (Irow w2 lo2 x.pa x.pn x.cm.ps) := PX.out.below B2.out
          have Y2 : Hid (Oc w2 w.heap.size a' m' c' Y) := HY.out.below B2.out
          clear K2 Hw2 Hg1 E1 HY
          go_wp2_with (first
            | (refine wpList_load_row (by rfl) 29 (.tmp 9) (by rfl) g1 (by rfl) 29 A (0, 0) _ k1.out Tryz.underlying29 rfl (info29 a18) ?_)
            | (go_at_call 60; refine (copyCmd_n HA P2 ZX ST).mono ?_; rintro e w3 ⟨B, rfl, H3⟩
               obtain ⟨y, hy1, hy2, hy3, hy4, hy5⟩ := H3.out
               have HBY : Hid (B = (encX y).toArray) := hy1
               have b18 : B.size = 18 := encX_sz hy1
               obtain ⟨g4, Hg4⟩ : ∃ g, Hid (w3.heap.size = g) := ⟨_, rfl⟩
               obtain ⟨w4, Hw4⟩ : ∃ W, Hid (w3.alloc (.cells B 29) = W) := ⟨_, rfl⟩
               have b4 : Below w3.heap.size w3 w4 := (by rw [← Hw4.out]; exact alloc1 w3 _)
               have k4 : w4.heap[g4]? = some (.cells (encX y).toArray 29 (0, 0)) := (by rw [← Hw4.out, ← Hg4.out, ← hy1]; exact heap_alloc_new w3 _)
               have Y4 : Oc w4 w.heap.size a' m' c' Y := (Y2.out.below hy5).below b4
               have Q4 : w4.ownsRow w2.heap.size 3 1 (.slice y.pa y.pn y.pc) y.pn (y.cm.ps.map iv) := rown_bel hy3 (fun q e => b4.block q (hy3.lt q e).2)
               have L4 : w.heap.size ≤ w2.heap.size := Nat.le_trans HB.out.size B2.out.size
               obtain ⟨a6, c6, w6, AR0, O6, B6⟩ := oc_snoc Y4 k4 Q4 hy4 L4 (by rw [hy2]; exact ST.out) (by have := SZ.out; have := HM'.out; omega) (Nat.le_trans (Nat.le_trans L4 hy5.size) b4.size)
               have AR : Hid ((Builtin.append_ #[22, 22] 22 #[.slice a' m' c', .slice (some ⟨g4, 0, none⟩) 1 1]).run Tryz.prog w4 = .ok (.slice a6 (m' + 1) c6) w6) := AR0
               have FIN : Hid (∃ Y, led Y = led X ++ led (M.take (j + 1)) ∧ Oc w6 w.heap.size a6 (m' + 1) c6 Y ∧ Below w.heap.size w w6) := ⟨Y ++ [y], (by rw [led_snoc EX.out, ← List.append_assoc, ← HL.out, ← hy2]; simp [led]), O6, ((HB.out.trans (B2.out.mono HB.out.size)).trans ((hy5.trans (b4.mono hy5.size)).mono L4)).trans B6⟩
               have FD : Hid (Array.foldl (fun cs (x : Value × Nat) => cs.setIfInBounds x.snd x.fst) #[.int .i64 0, .int .i64 0, .int .i64 0, .int .i64 0, .string ⟨#[]⟩, .string ⟨#[]⟩, .int .i64 0, .int .i64 0, .int .i64 0, .int .i64 0, .int .i64 0, .int .i64 0, .int .i64 0, .string ⟨#[]⟩, .int .i64 0, .slice none 0 0, .int .i64 0, .int .i64 0] B.zipIdx 0 18 = B) := fold18 HBY.out
               clear hy1 hy2 hy3 hy4 hy5 H3 b4 k4 Y4 Q4 L4 AR0 O6 B6)
            | (at_builtin; rw [FD.out, Hw4.out, Hg4.out]; refine wpList_appt (by rfl) (.tmp 34) (.tmp 37) (by rfl) (by rfl) (by rfl) (by rfl) AR ?_))
          go_roundw
          case rel => exact ⟨j + 1, a6, c6, m' + 1, by omega, by go_num, rfl, by have := HM'.out; show _ = _; omega, FIN.out⟩
          case measure => simp [intOf]; omega
        · have ein : j = m := by omega
          subst ein
          have e := HM'.out
          go_wp2
          go_ret
          subst e
          refine ⟨a', c', rfl, ?_⟩
          obtain ⟨Y, h1, h2, h3⟩ := HC.out
          exact ⟨Y, by rw [h1, List.take_of_length_le (by have := LM.out; omega)], h2, h3⟩
end Go.Proofs.YtfabnnbljkkihaaGreatDoor
