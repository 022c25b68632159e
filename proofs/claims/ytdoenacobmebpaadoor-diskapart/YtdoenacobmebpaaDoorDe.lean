/- Crash of package disk: what is not safe is let go. -/
import Derived.Test.YtdoenacobmebpaaDoorDd
namespace Go.Proofs.YtdoenacobmebpaaDoor
open Go.ChangeShapes Go.WideShapes Go.ChangeAt Go.RowKit Go.Maps Go.Sort Go.Shelf
set_option maxRecDepth 20000
set_option linter.unusedVariables false
set_option linter.unusedSimpArgs false
/- of one file -/
def cr : Option Fl → Option Fl
  | some f => if f.h = true then some ⟨f.s, f.s, true⟩ else none
  | none => none
theorem cr_cr (f : Option Fl) : cr (cr f) = cr f := by
  cases f with
  | none => rfl
  | some f =>
    obtain ⟨x, y, c⟩ := f
    cases c <;> simp [cr]
/- one round -/
def cst (D : DataW Unit) (s : ByteArray) : DataW Unit := if ((vw D s).getD f0).h = true then D.put (kl s) (fd ⟨((vw D s).getD f0).s, ((vw D s).getD f0).s, true⟩) else D.del (kl s)
theorem vw_cst {D : DataW Unit} (hD : IsMap D) (s t : ByteArray) : vw (cst D s) t = if t = s then cr (vw D t) else vw D t := by
  unfold cst
  by_cases h : ((vw D s).getD f0).h = true
  · rw [if_pos h, vw_put hD]
    by_cases e : t = s
    · subst e
      rw [if_pos rfl, if_pos rfl]
      cases hv : vw D t with
      | none => rw [hv] at h; cases h
      | some f => rw [hv] at h; simp at h; simp [cr, h]
    · rw [if_neg e, if_neg e]
  · rw [if_neg h, vw_del]
    by_cases e : t = s
    · subst e
      rw [if_pos rfl, if_pos rfl]
      cases hv : vw D t with
      | none => rfl
      | some f => rw [hv] at h; simp at h; simp [cr, h]
    · rw [if_neg e, if_neg e]
theorem isMap_cst {D : DataW Unit} (hD : IsMap D) (s : ByteArray) : IsMap (cst D s) := by
  unfold cst
  split
  · exact hD.put _ _
  · exact hD.del _
def crs (D : DataW Unit) (ks : List ByteArray) : DataW Unit := ks.foldl cst D
theorem isMap_crs : ∀ (ks : List ByteArray) {D : DataW Unit}, IsMap D → IsMap (crs D ks)
  | [], _, h => h
  | k :: ks, D, h => isMap_crs ks (isMap_cst h k)
open Classical in
theorem vw_crs : ∀ (ks : List ByteArray) {D : DataW Unit}, IsMap D → ∀ t, vw (crs D ks) t = if t ∈ ks then cr (vw D t) else vw D t
  | [], D, h, t => by simp [crs]
  | k :: ks, D, h, t => by
    show vw (crs (cst D k) ks) t = _
    rw [vw_crs ks (isMap_cst h k), vw_cst h]
    by_cases e : t = k
    · subst e
      by_cases h2 : t ∈ ks
      · simp [h2, cr_cr]
      · simp [h2]
    · simp [e]
theorem mem_keys {D : DataW Unit} {t : ByteArray} (h : (vw D t).isSome = true) : t.data.toList ∈ strKeys D := by
  rw [vw_some] at h
  cases D with
  | map es =>
    rw [has_eq, List.any_eq_true] at h
    obtain ⟨p, hp, hk⟩ := h
    refine List.mem_map.2 ⟨p, hp, ?_⟩
    obtain ⟨a, b⟩ := p
    simp only [kl] at hk
    cases a <;> simp [Lit.sameKey] at hk
    simp [strOf, hk]
  | _ => cases h
/- the whole crash, by any list of all keys -/
theorem vw_crash {D : DataW Unit} (hD : IsMap D) {ks : List ByteArray} {ss : List (List UInt8)} (hS : ss.Perm (strKeys D)) (hk : ks = (ss.mergeSort (fun x y => decide (x ≤ y))).map fun x => ⟨x.toArray⟩) (t : ByteArray) : vw (crs D ks) t = cr (vw D t) := by
  rw [vw_crs ks hD]
  by_cases h : t ∈ ks
  · rw [if_pos h]
  · rw [if_neg h]
    cases hv : vw D t with
    | none => rfl
    | some f =>
      exfalso
      apply h
      have h1 := mem_keys (D := D) (t := t) (by rw [hv]; rfl)
      rw [hk]
      refine List.mem_map.2 ⟨t.data.toList, ?_, ?_⟩
      · rw [List.mem_mergeSort]
        exact hS.mem_iff.2 h1
      · cases t; simp
theorem size_cst {D : DataW Unit} (hD : Tidy D) (s : ByteArray) : Maps.size (cst D s) ≤ Maps.size D := by
  unfold cst
  split
  · rename_i h
    rw [put_size hD]
    cases hv : vw D s with
    | none => rw [hv] at h; cases h
    | some f => simp
  · have := size_del (k := kl s) hD
    omega
set_option maxHeartbeats 2000000 in
theorem crash_n {w : World} {d m : Nat} {D : DataW Unit} {full : Bool} {lost : Int} (hD : Hid (Drv w d m D full lost)) :
    Calls Tryd.prog 11 #[.pointer (some ⟨d, 0, none⟩)] w fun e w' => ∃ D', e = .returned (.tuple #[]) ∧ Hid (Drv w' d m D' full lost ∧ ChD w w' d m ∧ ∀ t, vw D' t = cr (vw D t)) := by
  go_enter Tryd.func11, Tryd.ntmps11
  go_wp2_with (go_at_call 35; refine (names_n hD).mono ?_; rintro e w1 ⟨a, k, c, ks, rfl, H1⟩)
  have D1 := hD.out.below H1.out.2.2
  have B1 := H1.out.2.2
  have K1 := H1.out.1
  have kb : Hid (k = ks.length) := K1.len
  have HS : Hid (∃ ss : List (List UInt8), ss.Perm (strKeys D) ∧ ks = (ss.mergeSort (fun x y => decide (x ≤ y))).map fun x => ⟨x.toArray⟩) := H1.out.2.1
  have HG : Hid (d < w.heap.size ∧ m < w.heap.size ∧ k ≤ 512) := by
    refine ⟨hD.out.lt, hD.out.mlt, ?_⟩
    obtain ⟨ss, h1, h2⟩ := HS.out
    have h3 := congrArg List.length h2
    have h4 := h1.length_eq
    have h5 := hD.out.size
    obtain ⟨es, rfl⟩ := hD.out.isMap
    rw [size_eq] at h5
    simp [strKeys] at h3 h4
    have := kb.out
    omega
  have R0 : Hid (Drv w1 d m D full lost ∧ ChD w w1 d m ∧ Kn w1 w.heap.size a k ks) := ⟨D1, ChD.of_below B1, K1⟩
  have SZ : Hid (∀ s ∈ ks, s.size ≤ 9223372036854775807) := by
    intro s hs
    obtain ⟨ss, h1, h2⟩ := HS.out
    rw [h2] at hs
    obtain ⟨x, hx, rfl⟩ := List.mem_map.1 hs
    rw [List.mem_mergeSort] at hx
    have h3 := strKeys_le hD.out.own Tryd.underlying9 x (h1.mem_iff.1 hx)
    unfold maxLen at h3
    show x.toArray.size ≤ _
    simp
    omega
  have IM : Hid (IsMap D) := hD.out.isMap
  clear D1 B1 K1 H1
  go_loopw [8] (fun ti wr => ∃ i : Nat, i ≤ k ∧ ti = .int .i64 i ∧ Hid (Drv wr d m (crs D (ks.take i)) full lost ∧ ChD w wr d m ∧ Kn wr w.heap.size a k ks)) (fun ti _ => k - (intOf ti).toNat)
  case atStart => exact ⟨0, by omega, rfl, by simpa [crs] using R0⟩
  case round =>
    obtain ⟨i, hi, rfl, HI⟩ := hrel
    clear R0
    by_cases hlt : i < k
    · obtain ⟨g, rfl, hg1, hg2, hc⟩ := HI.out.2.2.at_ hlt
      have hil : i < ks.length := by have := kb.out; omega
      obtain ⟨s, Hs⟩ : ∃ s, Hid (ks[i] = s) := ⟨ks[i], (rfl : ks[i] = ks[i])⟩
      rw [Hs.out] at hc
      obtain ⟨Di, HDi⟩ : ∃ Di, Hid (crs D (ks.take i) = Di) := ⟨_, rfl⟩
      have dr : Drv wr d m Di full lost := by rw [← HDi.out]; exact HI.out.1
      have nx : crs D (ks.take (i + 1)) = cst Di s := by
        rw [List.take_add_one, List.getElem?_eq_getElem hil]
        show List.foldl cst D (ks.take i ++ [ks[i]]) = _
        rw [List.foldl_append, Hs.out, ← HDi.out]
        rfl
      have sz : s.size ≤ 9223372036854775807 := SZ.out s (by rw [← Hs.out]; exact List.getElem_mem hil)
      have hL := look_f dr.own (s := s) (by unfold maxLen; omega)
      obtain ⟨f, Hf⟩ : ∃ f, Hid ((vw Di s).getD f0 = f) := ⟨_, rfl⟩
      rw [Hf.out] at hL
      obtain ⟨x, y, c'⟩ := f
      have c0 := dr.c0
      have c0' : ∀ o, (wr.alloc o).cell? ⟨d, 0, none⟩ = some (.map (some m)) := fun o => (dr.below (alloc1 wr o)).c0
      have hL2 : (Instr.lookup 54 (.map (some m)) (.string s) false).run Tryd.prog wr = .ok (.agg #[.string x, .string y, .bool c']) wr := hL
      have HDR : Hid (Drv wr d m Di full lost) := dr
      have CH := HI.out.2.1
      have KN := HI.out.2.2
      have sK : ∀ w2, ChD wr w2 d m → Kn w2 w.heap.size (some ⟨g, 0, none⟩) k ks := fun w2 hc2 => KN.keep (fun b h1 h2 => hc2.block b h2 (by have := HG.out; omega) (by have := HG.out; omega))
      have k512 : k ≤ 512 := HG.out.2.2
      cases c' with
      | false =>
        obtain ⟨w2, DEL, D2, C2⟩ := drv_del (dr.below (alloc1 wr (.cells #[.string x, .string y, .bool false] 69))) (s := s) (by unfold maxLen; omega) 0
        have e1 : cst Di s = Di.del (kl s) := by unfold cst; rw [Hf.out]; rfl
        have C3 : ChD wr w2 d m := (ChD.of_below (alloc1 wr _)).trans C2
        have NX : Hid (Drv w2 d m (crs D (ks.take (i + 1))) full lost ∧ ChD w w2 d m ∧ Kn w2 w.heap.size (some ⟨g, 0, none⟩) k ks) := by
          rw [nx, e1]
          exact ⟨D2, CH.trans C3, sK w2 C3⟩
        clear D2 C2 C3 CH KN sK hL dr nx HI
        go_wp2
        go_roundw
        case rel => exact ⟨i + 1, by omega, by go_num, NX.out⟩
        case measure => simp [intOf]; omega
      | true =>
        have hsome : (vw Di s).isSome = true := by
          cases hv : vw Di s with
          | none => have h := Hf.out; rw [hv] at h; simp [f0] at h
          | some f => rfl
        have hn : Hid (nm s = true) := dr.good s hsome
        have hz : Hid (Maps.size (Di.put (kl s) (fd ⟨y, y, true⟩)) ≤ 512) := by
          rw [put_size dr.tidy, hsome]
          exact dr.size
        have e1 : cst Di s = Di.put (kl s) (fd ⟨y, y, true⟩) := by unfold cst; rw [Hf.out]; rfl
        have HX : Hid (crs D (ks.take (i + 1)) = Di.put (kl s) (fd ⟨y, y, true⟩) ∧ ChD w wr d m ∧ ∀ w2, ChD wr w2 d m → Kn w2 w.heap.size (some ⟨g, 0, none⟩) k ks) := ⟨nx.trans e1, CH, sK⟩
        have DW : ∀ o, Hid (Drv (wr.alloc o) d m Di full lost) := fun o => HDR.out.below (alloc1 wr o)
        clear CH KN sK hL dr nx HI e1
        go_wp2_with (go_at_call 36; refine (keep_n (DW _) s hn ⟨y, y, true⟩ hz).mono ?_; rintro e w3 ⟨rfl, H3⟩)
        have NX : Hid (Drv w3 d m (crs D (ks.take (i + 1))) full lost ∧ ChD w w3 d m ∧ Kn w3 w.heap.size (some ⟨g, 0, none⟩) k ks) := by
          rw [HX.out.1]
          have C3 : ChD wr w3 d m := (ChD.of_below (alloc1 wr _)).trans H3.out.2
          exact ⟨H3.out.1, HX.out.2.1.trans C3, HX.out.2.2 w3 C3⟩
        go_roundw
        case rel => exact ⟨i + 1, by omega, by go_num, NX.out⟩
        case measure => simp [intOf]; omega
    · have hik : i = ks.length := by have := kb.out; omega
      have FIN : Hid (Drv wr d m (crs D ks) full lost ∧ ChD w wr d m ∧ ∀ t, vw (crs D ks) t = cr (vw D t)) := by
        obtain ⟨h1, h2, h3⟩ := HI.out
        rw [hik, List.take_length] at h1
        obtain ⟨ss, h4, h5⟩ := HS.out
        exact ⟨h1, h2, vw_crash IM.out h4 h5⟩
      clear HI
      go_wp2
      go_end0
      exact ⟨crs D ks, rfl, FIN.out⟩
end Go.Proofs.YtdoenacobmebpaaDoor
