/- A head's lines, by the document. -/
import Derived.Test.YtemhhlongfabmaaGreatDoorId
import Derived.Test.YtemhhlongfabmaaGreatDoorHg
namespace Go.Proofs.YtemhhlongfabmaaGreatDoor
open Go.ChangeShapes Go.WideShapes Go.ChangeAt Go.RowKit
set_option maxRecDepth 20000
set_option linter.unusedVariables false
set_option linter.unusedSimpArgs false
def ES : Enc ByteArray := ⟨fun s => [.string s], 1, fun _ => rfl, fun x v hv => by
  rw [List.mem_singleton] at hv
  subst hv
  rfl⟩
theorem info9 : (Tryz.prog.info? 9).map (fun i => (i.zero, i.size, i.bytes)) = some (some (.string ⟨#[]⟩), 1, 16) := by kernel_rfl
def tlS (s : ByteArray) (f : Nat) : ByteArray := s.extract f s.size
theorem tlS_list (s : ByteArray) (f : Nat) : (tlS s f).data.toList = s.data.toList.drop f := Lib.extract_to_end s f
theorem lns_miss {s : ByteArray} (h : Lib.indexB s crlf = -1) : lns s = [s] := by unfold lns; rw [Lib.splitB_miss _ _ _ _ h]
theorem lns_hit {s : ByteArray} {i : Nat} (h : Lib.indexB s crlf = i) : lns s = s.extract 0 i :: lns (s.extract (i + 2) s.size) := by
  unfold lns
  rw [Lib.countB_hit s crlf i (by decide) h, Nat.add_comm 1, Lib.splitB_hit crlf 0 _ s i h]
  rfl
theorem u8_beq (k : UInt8) (x : UInt8) : (k == x) = decide (x.toNat = k.toNat) := by
  by_cases h : k = x
  · subst h; simp
  · rw [beq_eq_false_iff_ne.2 h, decide_eq_false (fun e => h (UInt8.toNat_inj.1 e).symm)]
theorem sb_get {s : ByteArray} {i : Nat} (h : i < s.data.toList.length) : sb s i = s.data.toList[i].toNat := by
  unfold sb
  rw [List.getD, List.getElem?_eq_getElem h]
  rfl
theorem occ2 {s : ByteArray} {f i : Nat} (hf : f ≤ i) (hi : i + 1 < s.size) : Lib.occAt (tlS s f).data.toList [13, 10] (i - f) = decide (sb s i = 13 ∧ sb s (i + 1) = 10) := by
  have h0 : i < s.data.toList.length := by rw [← Lib.size_eq]; omega
  have h1 : i + 1 < s.data.toList.length := by rw [← Lib.size_eq]; omega
  have e : (tlS s f).data.toList.drop (i - f) = s.data.toList[i] :: s.data.toList[i + 1] :: s.data.toList.drop (i + 2) := by
    rw [tlS_list, List.drop_drop, (by omega : f + (i - f) = i), List.drop_eq_getElem_cons h0, List.drop_eq_getElem_cons h1]
  unfold Lib.occAt
  rw [e, sb_get h0, sb_get h1]
  simp only [List.isPrefixOf, u8_beq]
  have e13 : (13 : UInt8).toNat = 13 := rfl
  have e10 : (10 : UInt8).toNat = 10 := rfl
  rw [e13, e10]
  simp
theorem tl_hit {s : ByteArray} {f i : Nat} (hf : f ≤ i) (hi : i + 1 < s.size) (hn : Lib.NoOcc (tlS s f).data.toList [13, 10] (i - f)) (h : sb s i = 13 ∧ sb s (i + 1) = 10) : lns (tlS s f) = s.extract f i :: lns (tlS s (i + 2)) := by
  have ho := occ2 hf hi
  rw [decide_eq_true h] at ho
  have hx : Lib.indexB (tlS s f) crlf = ((i - f : Nat) : Int) := Lib.index_hit hn (by rw [tlS_list, List.length_drop, ← Lib.size_eq]; omega) ho
  rw [lns_hit hx]
  have e1 : (tlS s f).extract 0 (i - f) = s.extract f i := by
    unfold tlS
    rw [ByteArray.extract_extract]
    congr 1
    omega
  have e2 : (tlS s f).extract (i - f + 2) (tlS s f).size = tlS s (i + 2) := by
    unfold tlS
    rw [ByteArray.extract_extract, ByteArray.size_extract]
    congr 1 <;> omega
  rw [e1, e2]
theorem tl_miss {s : ByteArray} {f i : Nat} (hf : f ≤ i) (hi : ¬ i + 1 < s.size) (hn : Lib.NoOcc (tlS s f).data.toList [13, 10] (i - f)) : lns (tlS s f) = [tlS s f] :=
  lns_miss (Lib.index_past (sub := [13, 10]) (by decide) hn (by
    rw [tlS_list, List.length_drop, ← Lib.size_eq]
    simp only [List.length_cons, List.length_nil]
    omega))
theorem add_str {w W : World} {a : Option Addr} {n c p : Nat} {l : List ByteArray} {f : ByteArray} (hR : Rw W w.heap.size 9 ES a n c l) (hn : n ≤ 8796093022207) (hp : W.heap[p]? = some (.cells #[.string f] 9 (0, 0))) (hb : Below w.heap.size w W) :
    ∃ g c' W', (Builtin.append_ #[58, 58] 58 #[.slice a n c, .slice (some ⟨p, 0, none⟩) 1 1]).run Tryz.prog W = .ok (.slice (some ⟨g, 0, none⟩) (n + 1) c') W' ∧ Rw W' w.heap.size 9 ES (some ⟨g, 0, none⟩) (n + 1) c' (l ++ [f]) ∧ Below w.heap.size w W' := by
  obtain ⟨a', c', W', h1, h2, h3, _⟩ := app_one Tryz.underlying58 info9 rfl (by decide) hR.row (cs := ES.e f) hp rfl (ES.one f) (by omega) (by simp only [maxLen]; omega) hb.size
  have h4 : Rw W' w.heap.size 9 ES a' (n + 1) c' (l ++ [f]) := ⟨by rw [ES.fl_app, ES.fl_one]; exact h2, by decide⟩
  obtain ⟨g, e, _⟩ := h4.at_ (i := 0) (by simp)
  subst e
  exact ⟨g, c', W', h1, h4, hb.grown h3 hb.size (fun q e => (hR.lt e).1)⟩
set_option maxHeartbeats 4000000 in
theorem lines_n {s : ByteArray} {w : World} (hs : s.size ≤ 4096) :
    Calls Tryz.prog 31 #[.string s] w fun e w' => ∃ g c, e = .returned (.slice (some ⟨g, 0, none⟩) (lns s).length c) ∧ Hid (Rw w' w.heap.size 9 ES (some ⟨g, 0, none⟩) (lns s).length c (lns s) ∧ Below w.heap.size w w') := by
  have IX : ∀ (i : Nat), i < s.size → ∀ W, (Instr.index 9 (.string s) (.int .i64 (i : Int))).run Tryz.prog W = .ok (.int .u8 (sb s i : Nat)) W := fun i h W => sb_ix s i i rfl h W
  obtain ⟨p, HP⟩ : ∃ q, Hid (w.heap.size = q) := ⟨_, rfl⟩
  obtain ⟨w1, H1⟩ : ∃ w1, Hid (w.alloc (.cells #[] 9) = w1) := ⟨_, rfl⟩
  have B1 : Hid (Below w.heap.size w w1) := by rw [← H1.out]; exact alloc1 _ _
  have R1 : Hid (Rw w1 w.heap.size 9 ES (some ⟨p, 0, none⟩) 0 0 []) := ⟨⟨rfl, .inr ⟨p, 0, #[], rfl, by rw [← HP.out]; exact Nat.le_refl _, by rw [← H1.out, ← HP.out]; exact heap_alloc_new _ _, by omega, by simp [maxLen], rfl, rfl⟩⟩, by decide⟩
  have T0 : Hid (lns s = [] ++ lns (tlS s 0)) := (by unfold tlS; rw [ByteArray.extract_zero_size]; rfl : lns s = [] ++ lns (tlS s 0))
  go_enter Tryz.func31, Tryz.ntmps31
  go_upto_region 2 with (fail)
  rw [H1.out, HP.out]
  go_wp2
  go_loopw [5, 4, 3] (fun ti tf tq wr => ∃ (i f : Nat) (a : Option Addr) (n c : Nat) (acc : List ByteArray), f ≤ i ∧ f ≤ s.size ∧ i ≤ s.size + 1 ∧ n ≤ i ∧ ti = .int .i64 (i : Int) ∧ tf = .int .i64 (f : Int) ∧ tq = .slice a n c ∧ Hid (lns s = acc ++ lns (tlS s f)) ∧ Hid (Lib.NoOcc (tlS s f).data.toList [13, 10] (i - f)) ∧ Hid (Rw wr w.heap.size 9 ES a n c acc ∧ Below w.heap.size w wr)) (fun ti _ _ _ => s.size + 2 - (intOf ti).toNat)
  case atStart => exact ⟨0, 0, _, 0, 0, [], by omega, by omega, by omega, by omega, rfl, rfl, rfl, T0.out, Lib.NoOcc.zero _ _, ⟨R1.out, B1.out⟩⟩
  case round =>
    obtain ⟨i, f, a, n, c, acc, hfi, hfs, his, hni, rfl, rfl, rfl, HT, HN, HR⟩ := hrel
    by_cases h1 : i + 1 < s.size
    · have i1 : (i : Int) + 1 < (s.size : Int) := by omega
      have X0 := IX i (by omega)
      have X1 := IX (i + 1) h1
      obtain ⟨x, Hx⟩ : ∃ x, Hid (sb s i = x) := ⟨_, rfl⟩
      obtain ⟨y, Hy⟩ : ∃ x, Hid (sb s (i + 1) = x) := ⟨_, rfl⟩
      rw [Hx.out] at X0
      rw [Hy.out] at X1
      have X2 : ∀ W, (Instr.index 9 (.string s) (.int .i64 ((i : Int) + 1))).run Tryz.prog W = .ok (.int .u8 (y : Nat)) W := X1
      clear X1
      by_cases ex : x = 13
      · by_cases ey : y = 10
        · have TH : Hid (lns (tlS s f) = s.extract f i :: lns (tlS s (i + 2))) := tl_hit hfi h1 HN.out ⟨Hx.out.trans ex, Hy.out.trans ey⟩
          subst ex ey
          have k1 : (f : Int) ≤ (i : Int) := by omega
          have k2 : (i : Int) ≤ (s.size : Int) := by omega
          obtain ⟨q2, Q2⟩ : ∃ q, Hid (wr.heap.size = q) := ⟨_, rfl⟩
          obtain ⟨w2, H2⟩ : ∃ w2, Hid (wr.alloc (.cells #[.string (s.extract f i)] 9) = w2) := ⟨_, rfl⟩
          obtain ⟨g', c', W', run, rw', bel'⟩ := add_str (w := w) (W := w2) (p := q2) (f := s.extract f i) (by rw [← H2.out]; exact HR.out.1.below (alloc1 _ _)) (by omega) (by rw [← H2.out, ← Q2.out]; exact heap_alloc_new _ _) (by rw [← H2.out]; exact HR.out.2.alloc HR.out.2.size _)
          have RUN : Hid ((Builtin.append_ #[58, 58] 58 #[.slice a n c, .slice (some ⟨q2, 0, none⟩) 1 1]).run Tryz.prog w2 = .ok (.slice (some ⟨g', 0, none⟩) (n + 1) c') W') := run
          have RW' : Hid (Rw W' w.heap.size 9 ES (some ⟨g', 0, none⟩) (n + 1) c' (acc ++ [s.extract f i]) ∧ Below w.heap.size w W') := ⟨rw', bel'⟩
          have TX : Hid (lns s = (acc ++ [s.extract f i]) ++ lns (tlS s (i + 2))) := (by rw [HT.out, TH.out, List.append_assoc]; rfl : lns s = (acc ++ [s.extract f i]) ++ lns (tlS s (i + 2)))
          have NZ : Hid (Lib.NoOcc (tlS s (i + 2)).data.toList [13, 10] (i + 2 - (i + 2))) := by rw [Nat.sub_self]; exact Lib.NoOcc.zero _ _
          clear run rw' bel'
          go_wp2_with (at_builtin; rw [H2.out, Q2.out]; refine wpList_app (by rfl) (.tmp 25) (.tmp 30) (by rfl) (by rfl) (by rfl) (by rfl) RUN ?_)
          go_roundw
          case rel => exact ⟨i + 2, i + 2, some ⟨g', 0, none⟩, n + 1, c', acc ++ [s.extract f i], by omega, by omega, by omega, by omega, by go_num, by go_num, rfl, TX.out, NZ.out, RW'.out⟩
          case measure => simp [intOf]; omega
        · have y1 : ¬ (y : Int) = 10 := by omega
          have NX : Hid (Lib.NoOcc (tlS s f).data.toList [13, 10] (i + 1 - f)) := by
            rw [(by omega : i + 1 - f = (i - f) + 1)]
            exact HN.out.succ (by rw [occ2 hfi h1]; exact decide_eq_false (fun h => ey (Hy.out.symm.trans h.2)))
          subst ex
          go_wp2
          go_roundw
          case rel => exact ⟨i + 1, f, a, n, c, acc, by omega, hfs, by omega, by omega, by go_num, rfl, rfl, HT.out, NX.out, HR.out⟩
          case measure => simp [intOf]; omega
      · have x1 : ¬ (x : Int) = 13 := by omega
        have NX : Hid (Lib.NoOcc (tlS s f).data.toList [13, 10] (i + 1 - f)) := by
          rw [(by omega : i + 1 - f = (i - f) + 1)]
          exact HN.out.succ (by rw [occ2 hfi h1]; exact decide_eq_false (fun h => ex (Hx.out.symm.trans h.1)))
        go_wp2
        go_roundw
        case rel => exact ⟨i + 1, f, a, n, c, acc, by omega, hfs, by omega, by omega, by go_num, rfl, rfl, HT.out, NX.out, HR.out⟩
        case measure => simp [intOf]; omega
    · have i1 : ¬ ((i : Int) + 1 < (s.size : Int)) := by omega
      have TM : Hid (lns s = acc ++ [tlS s f]) := (by rw [HT.out, tl_miss hfi h1 HN.out] : lns s = acc ++ [tlS s f])
      have k1 : (f : Int) ≤ (s.size : Int) := by omega
      obtain ⟨t9, T9⟩ : ∃ t, Hid (s.extract f s.size = t) := ⟨_, rfl⟩
      obtain ⟨q2, Q2⟩ : ∃ q, Hid (wr.heap.size = q) := ⟨_, rfl⟩
      obtain ⟨w2, H2⟩ : ∃ w2, Hid (wr.alloc (.cells #[.string (s.extract f s.size)] 9) = w2) := ⟨_, rfl⟩
      obtain ⟨g', c', W', run, rw', bel'⟩ := add_str (w := w) (W := w2) (p := q2) (f := s.extract f s.size) (by rw [← H2.out]; exact HR.out.1.below (alloc1 _ _)) (by omega) (by rw [← H2.out, ← Q2.out]; exact heap_alloc_new _ _) (by rw [← H2.out]; exact HR.out.2.alloc HR.out.2.size _)
      have RUN : Hid ((Builtin.append_ #[58, 58] 58 #[.slice a n c, .slice (some ⟨q2, 0, none⟩) 1 1]).run Tryz.prog w2 = .ok (.slice (some ⟨g', 0, none⟩) (n + 1) c') W') := run
      have RW' : Hid (Rw W' w.heap.size 9 ES (some ⟨g', 0, none⟩) (n + 1) c' (lns s) ∧ Below w.heap.size w W') := ⟨by rw [TM.out]; exact rw', bel'⟩
      have LE : Hid ((lns s).length = n + 1) := RW'.out.1.len.symm
      clear run rw' bel'
      go_wp2_with (at_builtin; rw [H2.out, Q2.out]; refine wpList_app (by rfl) (.tmp 36) (.tmp 40) (by rfl) (by rfl) (by rfl) (by rfl) RUN ?_)
      go_ret
      rw [LE.out]
      exact ⟨g', c', rfl, RW'.out⟩
end Go.Proofs.YtemhhlongfabmaaGreatDoor
