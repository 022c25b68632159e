/- Small functions of package disk: isName, synced, keep; strings.Clone. -/
import Derived.Test.YtdoenacobmebpaaDoorDa
import Derived.Test.YtdoenacobmebpaaDoorOr
import Derived.Deep.DeepCutAuto
namespace Go.Proofs.YtdoenacobmebpaaDoor
open Go.ChangeShapes Go.WideShapes Go.ChangeAt Go.RowKit
set_option maxRecDepth 20000
set_option linter.unusedVariables false
set_option linter.unusedSimpArgs false
theorem sb_lt (s : ByteArray) (i : Nat) : sb s i < 256 := UInt8.toNat_lt _
theorem sb_ix (s : ByteArray) (i : Nat) (z : Int) (hz : z = (i : Int)) (h : i < s.size) (w : World) : (Instr.index 9 (.string s) (.int .i64 z)).run Tryd.prog w = .ok (.int .u8 (sb s i : Nat)) w := by
  subst hz
  rw [run_index_string w _ _ _ _ Tryd.underlying9, dif_pos ⟨by omega, by omega⟩]
  have e : (s[((i : Int)).toNat]'(by simpa using h)).toNat = sb s i := by
    have h3 : i < s.data.size := h
    have e2 : s.data.toList.getD i 0 = s.data[i] := by
      rw [List.getD, Array.getElem?_toList, Array.getElem?_eq_getElem h3]
      rfl
    unfold sb
    rw [e2]
    rfl
  rw [e]
set_option maxHeartbeats 1000000 in
theorem name_n (s : ByteArray) (hs : s.size ≤ 9223372036854775807) (w : World) : Calls Tryd.prog 37 #[.string s] w fun e w' => e = .returned (.bool (nm s)) ∧ w' = w := by
  go_enter Tryd.func37, Tryd.ntmps37
  by_cases h1 : s.size = 0
  · have e1 : nm s = false := decide_eq_false (fun h => by omega)
    rw [e1]
    have i1 : (s.size : Int) < 1 := by omega
    go_wp2
    go_ret
    exact ⟨rfl, rfl⟩
  · by_cases h2 : 63 < s.size
    · have e1 : nm s = false := decide_eq_false (fun h => by omega)
      rw [e1]
      have i1 : ¬ ((s.size : Int) < 1) := by omega
      have i2 : (63 : Int) < (s.size : Int) := by omega
      go_wp2
      go_ret
      exact ⟨rfl, rfl⟩
    · have i1 : ¬ ((s.size : Int) < 1) := by omega
      have i2 : ¬ ((63 : Int) < (s.size : Int)) := by omega
      obtain ⟨n, Hn⟩ : ∃ n, Hid (s.size = n) := ⟨_, rfl⟩
      have hN : Hid (1 ≤ n ∧ n ≤ 63) := by have := Hn.out; exact ⟨by omega, by omega⟩
      go_wp2
      rw [Hn.out]
      clear i1 i2 h1 h2 hs
      go_loopw [14] (fun ti wr => ∃ k : Nat, k ≤ n ∧ ti = .int .i64 k ∧ Hid (∀ j, j < k → gb s j) ∧ wr = w) (fun ti _ => n - (intOf ti).toNat)
      case atStart => exact ⟨0, by omega, rfl, fun j hj => by omega, rfl⟩
      case round =>
        obtain ⟨k, hk, rfl, HK, rfl⟩ := hrel
        by_cases hlt : k < n
        · have i3 : (k : Int) < (n : Int) := by omega
          have n63 : n ≤ 63 := hN.out.2
          have ix := sb_ix s k (k : Int) rfl (by rw [Hn.out]; exact hlt)
          obtain ⟨y, Hy⟩ : ∃ y, Hid (sb s k = y) := ⟨_, rfl⟩
          simp only [Hy.out] at ix
          by_cases hy1 : y < 33
          · have e1 : nm s = false := decide_eq_false (fun h => by have h4 := h.2.2 k (by rw [Hn.out]; exact hlt); unfold gb at h4; rw [Hy.out] at h4; omega)
            have i4 : (y : Int) < 33 := by omega
            go_wp2
            go_ret
            exact ⟨by first | rfl | (rw [e1]; rfl), rfl⟩
          · by_cases hy2 : 126 < y
            · have e1 : nm s = false := decide_eq_false (fun h => by have h4 := h.2.2 k (by rw [Hn.out]; exact hlt); unfold gb at h4; rw [Hy.out] at h4; omega)
              have i4 : ¬ ((y : Int) < 33) := by omega
              have i5 : (126 : Int) < (y : Int) := by omega
              go_wp2
              go_ret
              exact ⟨by first | rfl | (rw [e1]; rfl), rfl⟩
            · have i4 : ¬ ((y : Int) < 33) := by omega
              have i5 : ¬ ((126 : Int) < (y : Int)) := by omega
              have NX : Hid (∀ j, j < k + 1 → gb s j) := fun j hj => by
                by_cases hjk : j = k
                · subst hjk
                  unfold gb
                  rw [Hy.out]
                  omega
                · exact HK.out j (by omega)
              go_wp2
              go_roundw
              case rel => exact ⟨k + 1, by omega, by go_num, NX.out, by first | rfl | trivial⟩
              case measure => simp [intOf]; omega
        · have e1 : nm s = true := decide_eq_true ⟨by have := hN.out; have := Hn.out; omega, by have := hN.out; have := Hn.out; omega, fun i hi => HK.out i (by have := Hn.out; omega)⟩
          go_wp2
          go_ret
          exact ⟨by first | rfl | (rw [e1]; rfl), rfl⟩
theorem clone55_n (s : ByteArray) (w : World) (hs : s.size ≤ 281474976710656) : Calls Tryd.prog 55 #[.string s] w fun e w' => e = .returned (.string s) ∧ Below w.heap.size w w' := Any.stringslite_Clone Tryd.clone55 s w hs
theorem clone_n (s : ByteArray) (w : World) (hs : s.size ≤ 281474976710656) : Calls Tryd.prog 50 #[.string s] w fun e w' => e = .returned (.string s) ∧ Hid (Below w.heap.size w w') := by
  go_enter Tryd.func50, Tryd.ntmps50
  go_wp2_with (go_at_call 55; refine (clone55_n s _ hs).mono ?_; rintro e w1 ⟨rfl, h1⟩; have H1 : Hid (Below w.heap.size w w1) := h1; clear h1)
  go_ret
  exact ⟨rfl, H1.out⟩
theorem synced_n (f : Fl) (w : World) : Calls Tryd.prog 39 #[fv f] w fun e w' => e = .returned (fv ⟨f.b, f.b, true⟩) ∧ Hid (Below w.heap.size w w') := by
  obtain ⟨x, y, c⟩ := f
  go_enter Tryd.func39, Tryd.ntmps39
  go_wp2
  refine bodyPost_ret (v := .agg #[.string x, .string x, .bool true]) (by simp [results, Tryd.results39, go_sem]) rfl ⟨rfl, ?_⟩
  exact ((Below.refl _ w).alloc (Nat.le_refl _) _).alloc (by simp) _
/- what keep reads -/
structure Kq (W : World) (d m g : Nat) (f : Fl) : Prop where
  c0 : W.cell? ⟨d, 0, none⟩ = some (.map (some m))
  q0 : W.cell? ⟨g, 0, none⟩ = some (.string f.b)
  q1 : W.cell? ⟨g, 1, none⟩ = some (.string f.s)
  q2 : W.cell? ⟨g, 2, none⟩ = some (.bool f.h)
theorem Kq.below {W W' : World} {d m g : Nat} {f : Fl} (h : Kq W d m g f) (hb : Below W.heap.size W W') : Kq W' d m g f :=
  ⟨(hb.cell (p := ⟨d, 0, none⟩) (cell_lt h.c0)).trans h.c0, (hb.cell (p := ⟨g, 0, none⟩) (cell_lt h.q0)).trans h.q0, (hb.cell (p := ⟨g, 1, none⟩) (cell_lt h.q1)).trans h.q1, (hb.cell (p := ⟨g, 2, none⟩) (cell_lt h.q2)).trans h.q2⟩
set_option maxHeartbeats 1000000 in
theorem keep_n {w : World} {d m : Nat} {D : DataW Unit} {full : Bool} {lost : Int} (hD : Hid (Drv w d m D full lost)) (s : ByteArray) (hs : Hid (nm s = true)) (f : Fl) (hz : Hid (Maps.size (D.put (kl s) (fd f)) ≤ 512)) :
    Calls Tryd.prog 36 #[.pointer (some ⟨d, 0, none⟩), .string s, fv f] w fun e w' => e = .returned (.tuple #[]) ∧ Hid (Drv w' d m (D.put (kl s) (fd f)) full lost ∧ ChD w w' d m) := by
  go_enter Tryd.func36, Tryd.ntmps36
  go_upto_region 1 with (fail)
  obtain ⟨x, y, c⟩ := f
  obtain ⟨g, Hg⟩ : ∃ g, Hid (w.heap.size = g) := ⟨_, rfl⟩
  have b0 : Below w.heap.size w (w.alloc (.cells #[.string x, .string y, .bool c] 69)).drew := ((Below.refl _ w).alloc (Nat.le_refl _) _).drew
  have D0 := hD.out.below b0
  have lt0 : d < g ∧ m < g := by rw [← Hg.out]; exact ⟨hD.out.lt, hD.out.mlt⟩
  have K0 : Kq (w.alloc (.cells #[.string x, .string y, .bool c] 69)).drew d m g ⟨x, y, c⟩ := by
    rw [← Hg.out]
    exact ⟨D0.c0, by simp, by simp, by simp⟩
  have HB : Hid (Below w.heap.size w (w.alloc (.cells #[.string x, .string y, .bool c] 69)).drew ∧ Drv (w.alloc (.cells #[.string x, .string y, .bool c] 69)).drew d m D full lost ∧ (d < g ∧ m < g) ∧ g < (w.alloc (.cells #[.string x, .string y, .bool c] 69)).drew.heap.size) := ⟨b0, D0, lt0, by rw [← Hg.out]; simp⟩
  clear b0 D0 lt0
  refine wp_region_till (S := fun L W => Kq W d m g ⟨x, y, c⟩) (by kernel_rfl) K0 (fun hS => ?_)
  rw [Hg.out]
  clear K0
  refine till_take (i := 0) (v := .pointer (some ⟨d, 0, none⟩)) rfl (by kernel_rfl) (by kernel_rfl) (by kernel_rfl) (fun _ _ _ h => h) (fun L w => Iff.rfl) (Or.inl ⟨by rfl, fun w => by go_simp⟩) hS (fun hSb => ?_)
  simp only [List.getElem_toArray, List.getElem_cons_zero, List.getElem_cons_succ, Act.put, List.setIfInBounds_toArray, List.set_cons_zero, List.set_cons_succ]
  clear hS
  refine till_take (i := 1) (v := .pointer (some ⟨d, 0, none⟩)) rfl (by kernel_rfl) (by kernel_rfl) (by kernel_rfl) (fun _ _ _ h => h) (fun L w => Iff.rfl) (Or.inl ⟨by rfl, fun w => by go_simp⟩) hSb (fun hS => ?_)
  simp only [List.getElem_toArray, List.getElem_cons_zero, List.getElem_cons_succ, Act.put, List.setIfInBounds_toArray, List.set_cons_zero, List.set_cons_succ]
  clear hSb
  refine till_take (i := 2) (v := .pointer (some ⟨d, 0, none⟩)) rfl (by kernel_rfl) (by kernel_rfl) (by kernel_rfl) (fun _ _ _ h => h) (fun L w => Iff.rfl) (Or.inl ⟨by rfl, fun w => by go_simp⟩) hS (fun hSb => ?_)
  simp only [List.getElem_toArray, List.getElem_cons_zero, List.getElem_cons_succ, Act.put, List.setIfInBounds_toArray, List.set_cons_zero, List.set_cons_succ]
  clear hS
  refine till_read (i := 3) (c := 7) (v := .map (some m)) (T := fun W => Kq W d m g ⟨x, y, c⟩) rfl rfl (by kernel_rfl) (by kernel_rfl) (by kernel_rfl) (by kernel_rfl) (by kernel_rfl) (fun _ _ _ h => h) (fun L w => Iff.rfl) (fun L w h1 h2 => h2) (Or.inl ⟨by rfl, fun w h => by have q := h.c0; go_simp⟩) hSb (fun hS => ?_)
  simp only [List.getElem_toArray, List.getElem_cons_zero, List.getElem_cons_succ, Act.put, List.setIfInBounds_toArray, List.set_cons_zero, List.set_cons_succ]
  clear hSb
  refine till_take (i := 4) (v := .string s) rfl (by kernel_rfl) (by kernel_rfl) (by kernel_rfl) (fun _ _ _ h => h) (fun L w => Iff.rfl) (Or.inl ⟨by rfl, fun w => by go_simp⟩) hS (fun hSb => ?_)
  simp only [List.getElem_toArray, List.getElem_cons_zero, List.getElem_cons_succ, Act.put, List.setIfInBounds_toArray, List.set_cons_zero, List.set_cons_succ]
  clear hS
  refine till_read (i := 6) (c := 7) (v := fv ⟨x, y, c⟩) (T := fun W => Kq W d m g ⟨x, y, c⟩) rfl rfl (by kernel_rfl) (by kernel_rfl) (by kernel_rfl) (by kernel_rfl) (by kernel_rfl) (fun _ _ _ h => h) (fun L w => Iff.rfl) (fun L w h1 h2 => h2) (Or.inl ⟨by rfl, fun w h => by have q0 := h.q0; have q1 := h.q1; have q2 := h.q2; go_simp⟩) hSb (fun hS => ?_)
  simp only [List.getElem_toArray, List.getElem_cons_zero, List.getElem_cons_succ, Act.put, List.setIfInBounds_toArray, List.set_cons_zero, List.set_cons_succ]
  clear hSb
  refine till_one (i := 5) (by kernel_rfl) rfl (fun K hK => ?_)
  simp only [List.getElem_toArray, List.getElem_cons_zero, List.getElem_cons_succ]
  rw [if_pos (by rfl)]
  go_simp
  go_wp2_with (go_at_call 50; refine (clone_n s _ (by have := nm_le hs.out; omega)).mono ?_; rintro e w1 ⟨rfl, H1⟩)
  have K1 : Kq w1 d m g ⟨x, y, c⟩ := hS.below H1.out
  have D1 : Drv w1 d m D full lost := HB.out.2.1.below H1.out
  obtain ⟨w2, MU, D2, C2⟩ := drv_put D1 (s := s) hs.out ⟨x, y, c⟩ hz.out
  have lg : g < w1.heap.size := Nat.lt_of_lt_of_le HB.out.2.2.2 H1.out.size
  have K2 : Kq w2 d m g ⟨x, y, c⟩ := by
    have e : w2.heap[g]? = w1.heap[g]? := C2.block g lg (by have := HB.out.2.2.1; omega) (by have := HB.out.2.2.1; omega)
    exact ⟨D2.c0, (World.cell?_of_block (a := ⟨g, 0, none⟩) e).trans K1.q0, (World.cell?_of_block (a := ⟨g, 1, none⟩) e).trans K1.q1, (World.cell?_of_block (a := ⟨g, 2, none⟩) e).trans K1.q2⟩
  have FIN : Hid (Drv w2 d m (D.put (kl s) (fd ⟨x, y, c⟩)) full lost ∧ ChD w w2 d m) := ⟨D2, ((ChD.of_below HB.out.1).trans (ChD.of_below H1.out)).trans C2⟩
  refine hK.out _ _ K1 (fun hSx => ?_)
  clear hK K hS
  try simp only [List.getElem_toArray, List.getElem_cons_zero, List.getElem_cons_succ, Act.put, List.setIfInBounds_toArray, List.set_cons_zero, List.set_cons_succ]
  refine till_one (i := 7) (by kernel_rfl) rfl (fun K hK => ?_)
  simp only [List.getElem_toArray, List.getElem_cons_zero, List.getElem_cons_succ]
  rw [if_pos (by rfl)]
  clear D2 C2 D1 K1 HB lg
  go_simp
  refine hK.out _ _ K2 (fun hSy => ?_)
  clear hK K
  refine till_done (by kernel_rfl) ?_ _
  go_end0
  exact ⟨rfl, FIN.out⟩
end Go.Proofs.YtdoenacobmebpaaDoor
