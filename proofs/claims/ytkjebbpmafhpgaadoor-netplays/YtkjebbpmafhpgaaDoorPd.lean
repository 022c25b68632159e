/- slices.DeleteFunc of letters (f32). -/
import Derived.Test.YtkjebbpmafhpgaaDoorNj
namespace Go.Proofs.YtkjebbpmafhpgaaDoor
open Go.ChangeShapes Go.WideShapes Go.ChangeAt Go.RowKit
set_option maxRecDepth 20000
set_option linter.unusedVariables false
set_option linter.unusedSimpArgs false
structure Ex (W : World) (gx : Nat) (k : Int) : Prop where
  x : W.heap[gx]? = some (.cells #[.int .i64 k] 3 (0, 0))
theorem Ex.ch {W W' : World} {gx : Nat} {k : Int} {S : Nat → Prop} (h : Ex W gx k) (hc : Ch W W' S) (hS : ∀ q, S q → ∃ cs, W.heap[q]? = some (.cells cs 71 (0, 0))) : Ex W' gx k :=
  ⟨(hc.block gx (Array.getElem?_eq_some_iff.1 h.x).1 (fun hs => by
    obtain ⟨c4, h4⟩ := hS gx hs
    rw [h.x] at h4
    cases h4)).trans h.x⟩
theorem Ex.below {W W' : World} {gx : Nat} {k : Int} (h : Ex W gx k) (hb : Below W.heap.size W W') : Ex W' gx k := h.ch (S := fun _ => False) (Ch.below hb) (fun _ h => h.elim)
def losB (k : Int) (x : Lt) : Bool := decide (x.tt = k)
theorem pred33 {w : World} {A : Array Value} {x : Lt} {gx : Nat} {k : Int} (hA : Hid (A = (EL.e x).toArray)) (hE : Hid (Ex w gx k)) :
    Calls Tryd.prog 33 #[.agg A, .pointer (some ⟨gx, 0, none⟩)] w fun e w' => e = .returned (.bool (losB k x)) ∧ Hid (Below w.heap.size w w') := by
  have e : A = #[.int .i64 x.no, .int .i64 x.fm, .int .i64 x.tt, .string x.bs] := hA.out
  subst e
  obtain ⟨w1, Hw1⟩ : ∃ w1, Hid (w.alloc (.cells #[.int .i64 x.no, .int .i64 x.fm, .int .i64 x.tt, .string x.bs] 71) = w1) := ⟨_, rfl⟩
  have B1 : Hid (Below w.heap.size w w1) := by rw [← Hw1.out]; exact alloc1 w _
  have q1 : ∀ ob, (w.alloc ob).cell? ⟨gx, 0, none⟩ = some (.int .i64 k) := fun ob => by
    have h := (hE.out.below (alloc1 w ob)).x
    simp [World.cell?, h]
  unfold losB
  go_enter Tryd.func33, Tryd.ntmps33
  go_wp2
  go_ret
  exact ⟨by first | rfl | simp, alloc1 w _⟩
/- the first that is gone -/
def gix (k : Int) (l : List Lt) : Nat := l.findIdx (losB k)
theorem gix_at {k : Int} {l : List Lt} {t : Nat} {x : Lt} (hx : l[t]? = some x) (hh : losB k x = true) (hb : ∀ s y, s < t → l[s]? = some y → losB k y = false) : gix k l = t := by
  obtain ⟨ht, rfl⟩ := List.getElem?_eq_some_iff.1 hx
  unfold gix
  rw [List.findIdx_eq ht]
  exact ⟨hh, fun j hj => hb j _ hj (List.getElem?_eq_getElem (by omega))⟩
def Ixd (k : Int) (X : List Lt) (n : Nat) (v : Int) : Prop := (∃ t : Nat, v = (t : Int) ∧ t < n ∧ (∀ s y, s < t → X[s]? = some y → losB k y = false) ∧ ∃ y, X[t]? = some y ∧ losB k y = true) ∨ (v = -1 ∧ ∀ (s : Nat) y, X[s]? = some y → losB k y = false)
set_option maxHeartbeats 4000000 in
theorem index38 {w : World} {lo : Nat} {a : Option Addr} {n c : Nat} {X : List Lt} {gx : Nat} {k : Int} (hA : Hid (Rw w lo 71 EL a n c X)) (hn : n ≤ 4096) (hE : Hid (Ex w gx k)) :
    Calls Tryd.prog 38 #[.slice a n c, .func (.func 33) #[] #[.pointer (some ⟨gx, 0, none⟩)]] w fun e w' => ∃ v, e = .returned (.int .i64 v) ∧ Hid (Ixd k X n v ∧ Below w.heap.size w w') := by
  have LX : Hid (n = X.length) := hA.out.len
  go_enter Tryd.func38, Tryd.ntmps38
  go_wp2
  go_loopw [8] (fun ti wr => ∃ t : Nat, t ≤ n ∧ ti = .int .i64 t ∧ Hid (∀ s y, s < t → X[s]? = some y → losB k y = false) ∧ Hid (Below w.heap.size w wr)) (fun ti _ => n - (intOf ti).toNat)
  case atStart => exact ⟨0, by omega, rfl, fun s y hs => by omega, Below.refl _ _⟩
  case round =>
    obtain ⟨t, ht, rfl, HK, HB⟩ := hrel
    by_cases hlt : t < n
    · have i3 : (t : Int) < (n : Int) := by omega
      have kx : t < X.length := by rw [← LX.out]; exact hlt
      obtain ⟨b1, rfl, _, _, e1⟩ := (hA.out.below HB.out).at_ kx
      obtain ⟨x, Hx⟩ : ∃ x, Hid (X[t] = x) := ⟨X[t], (rfl : X[t] = X[t])⟩
      rw [Hx.out] at e1
      have EX : Hid (X[t]? = some x) := by show _ = _; rw [← Hx.out]; simp [kx]
      obtain ⟨A, HA⟩ : ∃ A, Hid (A = (EL.e x).toArray) := ⟨_, rfl⟩
      have E1 : Hid (wr.rangeAt b1 (t * 4) (EL.e x)) := e1
      have G1 : Hid (Ex wr gx k) := hE.out.below HB.out
      clear e1
      by_cases hh : losB k x = true
      · have Hr : Hid (losB k x = true) := hh
        clear hh
        go_wp2_with (first
          | (refine wpList_load_mid (by rfl) 71 (.tmp 14) (by rfl) b1 (t * 4) (by rfl) (EL.e x) _ E1.out Tryd.underlying71 rfl (by rw [EL.len]; exact inz71) ?_; rw [← HA.out])
          | (go_at_call 33; refine (pred33 HA G1).mono ?_; rintro e w4 ⟨rfl, H4⟩; rw [Hr.out]))
        go_ret
        exact ⟨(t : Int), rfl, .inl ⟨t, rfl, hlt, HK.out, _, EX.out, Hr.out⟩, HB.out.trans (H4.out.mono HB.out.size)⟩
      · have Hr : Hid (losB k x = false) := Bool.eq_false_iff.2 hh
        have NX : Hid (∀ s y, s < t + 1 → X[s]? = some y → losB k y = false) := fun s y hs hy => by
          by_cases hst : s = t
          · subst hst
            rw [EX.out] at hy
            cases hy
            exact Hr.out
          · exact HK.out s y (by omega) hy
        clear hh
        go_wp2_with (first
          | (refine wpList_load_mid (by rfl) 71 (.tmp 14) (by rfl) b1 (t * 4) (by rfl) (EL.e x) _ E1.out Tryd.underlying71 rfl (by rw [EL.len]; exact inz71) ?_; rw [← HA.out])
          | (go_at_call 33; refine (pred33 HA G1).mono ?_; rintro e w4 ⟨rfl, H4⟩; rw [Hr.out]))
        go_roundw
        case rel => exact ⟨t + 1, by omega, by go_num, NX.out, HB.out.trans (H4.out.mono HB.out.size)⟩
        case measure => simp [intOf]; omega
    · have ein : t = n := by omega
      have HK2 : Hid (∀ (s : Nat) y, X[s]? = some y → losB k y = false) := fun s y hy => HK.out s y (by have h2 := (List.getElem?_eq_some_iff.1 hy).1; have := LX.out; omega) hy
      subst ein
      go_wp2
      go_ret
      exact ⟨-1, rfl, .inr ⟨rfl, HK2.out⟩, HB.out⟩
/- what DeleteFunc's loop keeps: the first i are what is kept of the first j, those from j on are as they were -/
structure Dl (W : World) (lo b n c : Nat) (k : Int) (X : List Lt) (i j : Nat) : Prop where
  r : ∃ L, Rw W lo 71 EL (some ⟨b, 0, none⟩) n c L ∧ L.take i = (X.take j).filter (fun o => !losB k o) ∧ L.drop j = X.drop j
  h : i < j ∧ j ≤ n
theorem all_kept {k : Int} {X : List Lt} {t : Nat} (hb : ∀ s y, s < t → X[s]? = some y → losB k y = false) : (X.take t).filter (fun o => !losB k o) = X.take t := by
  rw [List.filter_eq_self]
  intro o ho
  obtain ⟨s, hs, rfl⟩ := List.getElem_of_mem ho
  rw [List.length_take] at hs
  have := hb s (X[s]'(by omega)) (by omega) (by simp [show s < X.length by omega])
  simp [List.getElem_take, this]
theorem Dl.start {W : World} {lo b n c : Nat} {k : Int} {X : List Lt} {t : Nat} (hA : Rw W lo 71 EL (some ⟨b, 0, none⟩) n c X) (ht : t < n) (hb : ∀ s y, s < t → X[s]? = some y → losB k y = false) (hx : ∃ y, X[t]? = some y ∧ losB k y = true) : Dl W lo b n c k X t (t + 1) := by
  refine ⟨⟨X, hA, ?_, rfl⟩, by omega⟩
  have hl := hA.len
  have kx : t < X.length := by omega
  rw [List.take_add_one, List.getElem?_eq_getElem kx, List.filter_append, all_kept hb]
  obtain ⟨y, h1, h2⟩ := hx
  simp [kx] at h1
  subst h1
  simp [h2]
theorem Dl.skip {W W' : World} {lo b n c : Nat} {k : Int} {X : List Lt} {i j : Nat} {x : Lt} (h : Dl W lo b n c k X i j) (hb : Below W.heap.size W W') (hx : X[j]? = some x) (hg : losB k x = true) : Dl W' lo b n c k X i (j + 1) := by
  obtain ⟨L, h1, h2, h3⟩ := h.r
  have hj := (List.getElem?_eq_some_iff.1 hx).1
  have e : X.drop (j + 1) = (X.drop j).drop 1 := by rw [List.drop_drop]
  have e2 : L.drop (j + 1) = (L.drop j).drop 1 := by rw [List.drop_drop]
  refine ⟨⟨L, h1.below hb, ?_, by rw [e, e2, h3]⟩, by have := h.h; omega, ?_⟩
  · rw [h2, List.take_add_one, hx, List.filter_append]
    simp [hg]
  · have hl := h1.len
    have h4 := congrArg List.length h3
    simp only [List.length_drop] at h4
    have := h.h
    omega
theorem Dl.keep {W W' : World} {lo b n c : Nat} {k : Int} {X : List Lt} {i j : Nat} {x : Lt} (h : Dl W lo b n c k X i j) (hb : Below W.heap.size W W') (hx : X[j]? = some x) (hg : losB k x = false) (hjn : j < n) : Dl (W'.setCells b (i * 4) (EL.e x)) lo b n c k X (i + 1) (j + 1) := by
  obtain ⟨L, h1, h2, h3⟩ := h.r
  have hij := h.h
  have hj := (List.getElem?_eq_some_iff.1 hx).1
  have hl := h1.len
  have e : X.drop (j + 1) = (X.drop j).drop 1 := by rw [List.drop_drop]
  have e2 : L.drop (j + 1) = (L.drop j).drop 1 := by rw [List.drop_drop]
  refine ⟨⟨L.set i x, (h1.below hb).setAt (by omega) x, ?_, ?_⟩, by omega, by omega⟩
  · have er : (X.take (j + 1)).filter (fun o => !losB k o) = (X.take j).filter (fun o => !losB k o) ++ [x] := by rw [List.take_add_one, hx, List.filter_append]; simp [hg]
    rw [er, ← h2, List.take_add_one, List.take_set_of_le (Nat.le_refl _), List.getElem?_set_self (by omega)]
    rfl
  · rw [List.drop_set_of_lt (by omega), e, e2, h3]
theorem Dl.load {W : World} {lo b n c : Nat} {k : Int} {X : List Lt} {i j : Nat} {x : Lt} (h : Dl W lo b n c k X i j) (hx : X[j]? = some x) (hjn : j < n) : W.rangeAt b (j * 4) (EL.e x) := by
  obtain ⟨L, h1, h2, h3⟩ := h.r
  have hl := h1.len
  have hlj : j < L.length := by omega
  obtain ⟨g, e, _, _, hr⟩ := h1.at_ hlj
  cases e
  have e2 : L[j]? = X[j]? := by
    have := congrArg (fun l => l[0]?) h3
    simpa [List.getElem?_drop] using this
  rw [hx, List.getElem?_eq_getElem hlj] at e2
  cases e2
  exact hr
theorem Dl.thr {W : World} {lo b n c : Nat} {k : Int} {X : List Lt} {i j : Nat} (h : Dl W lo b n c k X i j) : W.there b (i * 4) 4 := by
  obtain ⟨L, h1, h2, h3⟩ := h.r
  exact h1.thereAt (by have := h.h; omega)
theorem Rw.clr {α : Type} {E : Enc α} {w : World} {lo : Nat} {t s : TypeId} {b n c i : Nat} {l : List α} {Z : Value} {B : Nat} (h : Rw w lo t E (some ⟨b, 0, none⟩) n c l) (hi' : i < n) (hu : Tryd.prog.underlying s = some (.slice t)) (hinf : (Tryd.prog.info? t).map (fun i => (i.zero, i.size, i.bytes)) = some (some Z, E.z, B)) (hZ : Z.cells.size = E.z) (hZ1 : Z.cells.all (·.oneCell') = true) :
    ∃ w', (∀ ty cC, (Builtin.clear_ #[s] ty #[.slice (some ⟨b, i * E.z, none⟩) (n - i) cC]).run Tryd.prog w = .ok (.tuple #[]) w') ∧ Rw w' lo t E (some ⟨b, 0, none⟩) i c (l.take i) ∧ Ch w w' (fun q => q = b) := by
  have hl := h.len
  obtain ⟨inf, hi1, hz0, hz1, hz2⟩ := info_parts hinf
  rcases h.row with ⟨h0, ⟨h1, _⟩ | ⟨q, cap, cur, h1, h2, h3, h4, h5, h6, h7⟩⟩
  · cases h1
  · cases h1
    have zc : n * E.z ≤ c * E.z := Nat.mul_le_mul_right _ h4
    have lei : i * E.z ≤ n * E.z := Nat.mul_le_mul_right _ (by omega)
    have ze : i * E.z + (n - i) * E.z = n * E.z := by rw [← Nat.add_mul]; congr 1; omega
    have zl : (Builtin.zeroCells Z.cells (n - i)).toList.length = (n - i) * E.z := by rw [Array.length_toList, zeros_size, hZ]
    have zo : ∀ v ∈ (Builtin.zeroCells Z.cells (n - i)).toList, v.oneCell' = true := fun v hv => by
      have hv2 := Array.mem_toList_iff.1 hv
      obtain ⟨k, hk, rfl⟩ := Array.getElem_of_mem hv2
      rw [zeros_size, hZ] at hk
      have hzp := h.pos
      simp only [Builtin.zeroCells, Array.getElem_map, Array.getElem_range]
      have hm : k % Z.cells.size < Z.cells.size := Nat.mod_lt _ (by rw [hZ]; exact hzp)
      rw [getElem!_pos Z.cells _ hm]
      exact Array.all_eq_true.1 hZ1 _ hm
    have hst := run_storeCells_at Tryd.prog b (i * E.z) t (Builtin.zeroCells Z.cells (n - i)).toList 0 cur w h3 (by rw [zl, h6]; omega) zo
    have nz : ¬ (n - i = 0) := by omega
    obtain ⟨m, hm⟩ : ∃ m, n - i = m + 1 := ⟨n - i - 1, by omega⟩
    refine ⟨w.setRow b (cur.toList.take (i * E.z + 0) ++ (Builtin.zeroCells Z.cells (n - i)).toList ++ cur.toList.drop (i * E.z + 0 + (Builtin.zeroCells Z.cells (n - i)).toList.length)).toArray, fun ty cC => ?_, ?_, ⟨rfl, rfl, rfl, by rw [setRow_size]; exact Nat.le_refl _, fun k hk hn => setRow_other _ _ _ _ hn⟩⟩
    · rw [hm] at hst ⊢
      simp [Builtin.clear_, run_underlying hu, zeroValue, typeInfo, hi1, hz0, hst]
    · refine ⟨⟨by rw [E.fl_len, List.length_take, Nat.min_eq_left (by omega)], .inr ⟨b, c, _, rfl, h2, setRow_heap _ _ _ _ _ _ h3, by omega, h5, ?_, ?_⟩⟩, h.pos⟩
      · simp only [Nat.add_zero, List.size_toArray, List.length_append, List.length_take, List.length_drop, Array.length_toList, h6]
        rw [← Array.length_toList, zl, Nat.min_eq_left (by omega)]
        omega
      · rw [Nat.add_zero, E.fl_take, ← h7, List.take_take, Nat.min_eq_left lei]
        show ((cur.toList.take (i * E.z) ++ _ ++ _) : List Value).take (i * E.z) = _
        rw [List.append_assoc, List.take_left' (by rw [List.length_take, Array.length_toList, h6, Nat.min_eq_left (by omega)])]
set_option maxHeartbeats 8000000 in
theorem delf {w : World} {lo : Nat} {a : Option Addr} {n c : Nat} {X : List Lt} {gx : Nat} {k : Int} (hA : Hid (Rw w lo 71 EL a n c X)) (hn : n ≤ 4096) (hE : Hid (Ex w gx k)) :
    Calls Tryd.prog 32 #[.slice a n c, .func (.func 33) #[] #[.pointer (some ⟨gx, 0, none⟩)]] w fun e w' => ∃ n', e = .returned (.slice a n' c) ∧ Hid (Rw w' lo 71 EL a n' c (X.filter (fun o => !losB k o)) ∧ Ch w w' (fun q => blkOf a = some q)) := by
  have LX : Hid (n = X.length) := hA.out.len
  have ncap : n ≤ c := hA.out.cap
  go_enter Tryd.func32, Tryd.ntmps32
  go_upto_region 2 with (go_at_call 38; refine (index38 hA hn hE).mono ?_; rintro e w2 ⟨v, rfl, H2⟩)
  have A2 : Hid (Rw w2 lo 71 EL a n c X) := hA.out.below H2.out.2
  have E2 : Hid (Ex w2 gx k) := hE.out.below H2.out.2
  have B2 : Hid (Below w.heap.size w w2) := H2.out.2
  rcases H2.out.1 with ⟨t, hv, ht, hk1, hk2⟩ | ⟨rfl, hk⟩
  · obtain ⟨b, rfl, _, _, _⟩ := A2.out.at_ (i := t) (by rw [← LX.out]; exact ht)
    have D0 : Hid (Dl w2 lo b n c k X t (t + 1)) := Dl.start A2.out ht hk1 hk2
    have i1 : (v == -1) = false := by simp; omega
    have i2 : 0 ≤ v := by omega
    have i8 : v < 4096 := by omega
    have HV : Hid (v = (t : Int)) := hv
    clear hk1 hk2 H2 hA hE hv
    go_wp2
    clear i1 i2 i8
    go_loopw [5, 6] (fun t5 t6 wr => ∃ (i j : Nat), t5 = .int .i64 i ∧ t6 = .int .i64 j ∧ Hid (Dl wr lo b n c k X i j) ∧ Hid (Ex wr gx k) ∧ Hid (Ch w2 wr (fun q => q = b))) (fun _ t6 _ => n - (intOf t6).toNat)
    case atStart => exact ⟨t, t + 1, by rw [HV.out], by rw [HV.out]; go_num, D0, E2, Ch.refl _ _⟩
    case round =>
      obtain ⟨i, j, rfl, rfl, HD, HE, HCH⟩ := hrel
      have hij := HD.out.h
      by_cases hlt : j < n
      · have i3 : (j : Int) < (n : Int) := by omega
        have i4 : (i : Int) < (n : Int) := by omega
        have kx : j < X.length := by rw [← LX.out]; exact hlt
        obtain ⟨x, Hx⟩ : ∃ x, Hid (X[j] = x) := ⟨X[j], (rfl : X[j] = X[j])⟩
        have EX : Hid (X[j]? = some x) := by show _ = _; rw [← Hx.out]; exact List.getElem?_eq_getElem kx
        obtain ⟨A, HA⟩ : ∃ A, Hid (A = (EL.e x).toArray) := ⟨_, rfl⟩
        have az : A.size = 4 := arr_sz HA.out
        have ai : (Tryd.prog.info? 71).map (·.size) = some A.size := by rw [az]; exact inz71
        have AA : Hid (A.all (·.oneCell') = true) := arr_all HA.out
        have E1 : Hid (wr.rangeAt b (j * 4) (EL.e x)) := HD.out.load EX.out hlt
        obtain ⟨w3, Hw3, K3⟩ := box_any wr 71 #[.int .i64 0, .int .i64 0, .int .i64 0, .string ⟨#[]⟩] A
        obtain ⟨g1, Hg1⟩ : ∃ g, Hid (wr.heap.size = g) := ⟨_, rfl⟩
        clear Hx kx
        go_upto_region 8 with first
          | (refine wpList_load_mid (by rfl) 71 (.tmp 24) (by rfl) b (j * 4) (by rfl) (EL.e x) _ E1.out Tryd.underlying71 rfl (by rw [EL.len]; exact inz71) ?_; rw [← HA.out])
          | (refine wpList_store_row (by rfl) 71 (.tmp 7) (.tmp 25) (by rfl) wr.heap.size A (by rfl) (by rfl) 71 _ (heap_alloc_new wr _) ai (by rw [az]; rfl) AA.out ?_)
        rw [Hw3.out, Hg1.out]
        have k3 : Hid (w3.heap[g1]? = some (.cells A 71 (0, 0))) := by rw [← Hg1.out]; exact K3.out.1
        have B3 : Hid (Below wr.heap.size wr w3) := K3.out.2.1
        have E3 : Hid (Ex w3 gx k) := HE.out.below B3.out
        clear K3 Hw3 E1
        by_cases hh : losB k x = true
        · have Hr : Hid (losB k x = true) := hh
          clear hh
          go_wp2_with (first
            | (refine wpList_load_row (by rfl) 71 (.tmp 7) (by rfl) g1 (by rfl) 71 A (0, 0) _ k3.out Tryd.underlying71 rfl ai ?_)
            | (go_at_call 33; refine (pred33 HA E3).mono ?_; rintro e w4 ⟨rfl, H4⟩; rw [Hr.out]))
          have B4 : Hid (Below wr.heap.size wr w4) := B3.out.trans (H4.out.mono B3.out.size)
          have DN : Hid (Dl w4 lo b n c k X i (j + 1)) := HD.out.skip B4.out EX.out Hr.out
          have EN : Hid (Ex w4 gx k) := E3.out.below H4.out
          have CN : Hid (Ch w2 w4 (fun q => q = b)) := HCH.out.trans (Ch.below B4.out)
          go_roundw
          case rel => exact ⟨i, j + 1, rfl, by go_num, DN, EN, CN⟩
          case measure => simp [intOf]; omega
        · have Hr : Hid (losB k x = false) := Bool.eq_false_iff.2 hh
          clear hh
          go_upto_region 9 with (first
            | (refine wpList_load_row (by rfl) 71 (.tmp 7) (by rfl) g1 (by rfl) 71 A (0, 0) _ k3.out Tryd.underlying71 rfl ai ?_)
            | (go_at_call 33; refine (pred33 HA E3).mono ?_; rintro e w4 ⟨rfl, H4⟩; rw [Hr.out]))
          have B4 : Hid (Below wr.heap.size wr w4) := B3.out.trans (H4.out.mono B3.out.size)
          have k4 : Hid (w4.heap[g1]? = some (.cells A 71 (0, 0))) := (H4.out.block _ (Array.getElem?_eq_some_iff.1 k3.out).1).trans k3.out
          have DN : Hid (Dl (w4.setCells b (i * 4) A.toList) lo b n c k X (i + 1) (j + 1)) := by
            have e : A.toList = EL.e x := by rw [HA.out]
            rw [e]
            exact HD.out.keep B4.out EX.out Hr.out hlt
          have T4 : Hid (w4.there b (i * 4) A.size) := by
            obtain ⟨L, l1, l2, l3⟩ := HD.out.r
            rw [az]
            exact (l1.below B4.out).thereAt (by omega)
          have CS : Hid (Ch w4 (w4.setCells b (i * 4) A.toList) (fun q => q = b)) := ch_setCells _ _ _
          have EN : Hid (Ex (w4.setCells b (i * 4) A.toList) gx k) := (E3.out.below H4.out).ch CS.out (fun q e => by
            obtain ⟨L, l1, l2, l3⟩ := HD.out.r
            obtain ⟨cur, hc, _⟩ := (l1.below B4.out).blk (q := b) rfl
            exact ⟨cur, by rw [e]; exact hc⟩)
          have CN : Hid (Ch w2 (w4.setCells b (i * 4) A.toList) (fun q => q = b)) := (HCH.out.trans (Ch.below B4.out)).trans CS.out
          go_wp2_with (first
            | (refine wpList_load_row (by rfl) 71 (.tmp 7) (by rfl) g1 (by rfl) 71 A (0, 0) _ k4.out Tryd.underlying71 rfl ai ?_)
            | (refine wpList_store_mid (by rfl) 71 (.tmp 33) (.tmp 32) (by rfl) b (i * 4) A (by rfl) (by rfl) T4.out ai AA.out ?_))
          go_roundw
          case rel => exact ⟨i + 1, j + 1, by go_num, by go_num, DN, EN, CN⟩
          case measure => simp [intOf]; omega
      · have ejn : j = n := by omega
        subst ejn
        obtain ⟨L, l1, l2, l3⟩ := HD.out.r
        obtain ⟨w5, r5, f5, c5⟩ := l1.clr (i := i) (by omega) Tryd.underlying56 inf71 rfl (by kernel_rfl)
        have cl : (Builtin.clear_ #[56] 0 #[.slice (some ⟨b, i * 4, none⟩) (j - i) (c - i)]).run Tryd.prog wr = .ok (.tuple #[]) w5 := r5 0 (c - i)
        have F5 : Hid (Rw w5 lo 71 EL (some ⟨b, 0, none⟩) i c (X.filter (fun o => !losB k o))) := by
          have h := f5
          rw [l2, List.take_of_length_le (by have := LX.out; omega)] at h
          exact h
        have C5 : Hid (Ch w w5 (fun q => blkOf (some (⟨b, 0, none⟩ : Addr)) = some q)) := ((Ch.below B2.out).trans (HCH.out.weak (fun q _ h => by rw [h]; rfl))).trans (c5.weak (fun q _ h => by rw [h]; rfl))
        have i5 : i ≤ j := by omega
        have i6 : ¬ (c = i) := by omega
        have i7 : (i : Int) ≤ (j : Int) := by omega
        have i8 : i ≤ c := by omega
        have i9 : (i : Int) ≤ (c : Int) := by omega
        clear r5 f5 c5 l1 l2 l3
        go_wp2
        go_ret
        exact ⟨i, rfl, F5.out, C5.out⟩
  · have FX : Hid (X.filter (fun o => !losB k o) = X) := by
      show _ = _
      have h := all_kept (k := k) (X := X) (t := X.length) (fun s y _ hy => hk s y hy)
      rwa [List.take_length] at h
    clear hk H2
    go_wp2
    go_ret
    exact ⟨n, rfl, by rw [FX.out]; exact A2.out, Ch.below B2.out⟩
end Go.Proofs.YtkjebbpmafhpgaaDoor
