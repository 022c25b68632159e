/- The network's calls: Waiting, Nth. -/
import Derived.Test.YtkjebbpmafhpgaaDoorNf
namespace Go.Proofs.YtkjebbpmafhpgaaDoor
open Go.ChangeShapes Go.WideShapes Go.ChangeAt Go.RowKit
set_option maxRecDepth 20000
set_option linter.unusedVariables false
set_option linter.unusedSimpArgs false
theorem info3 : (Tryd.prog.info? 3).map (fun i => (i.zero, i.size, i.bytes)) = some (some (.int .i64 0), 1, 8) := by kernel_rfl
theorem make_ints (n : Nat) (h : n ≤ 4096) (w : World) : (Instr.makeSlice 53 (.int .i64 (n : Int)) (.int .i64 (n : Int))).run Tryd.prog w = .ok (.slice (some ⟨w.heap.size, 0, none⟩) n n) (w.alloc (.cells ((List.replicate n (0 : Int)).map iv).toArray 3)) := by
  obtain ⟨i, hi, hz0, hz1, hz2⟩ := info_parts info3
  have hr := run_make (P := Tryd.prog) w 53 3 i (.int .i64 0) Tryd.underlying53 hi hz0 .i64 .i64 n n (by omega) (by omega) (by rw [hz2]; omega) (by omega)
  rw [hz1] at hr
  have e : madeCells #[Value.int .i64 0] n = ((List.replicate n (0 : Int)).map iv).toArray := by
    apply Array.ext
    · simp [madeCells]
    · intro i h1 h2
      simp [madeCells, Nat.mod_one, iv]
  rw [← e]
  simpa [Value.cells] using hr
/- the numbers so far, noughts behind -/
def wt (X : List Lt) (n i : Nat) : List Int := (X.take i).map Lt.no ++ List.replicate (n - i) 0
theorem wt_len {X : List Lt} {n i : Nat} (hn : n = X.length) (hi : i ≤ n) : (wt X n i).length = n := by
  unfold wt
  rw [List.length_append, List.length_map, List.length_take, List.length_replicate, Nat.min_eq_left (by omega)]
  omega
theorem wt_set {X : List Lt} {n i : Nat} {x : Lt} (hn : n = X.length) (hx : X[i]? = some x) : ((wt X n i).map iv).toArray.setIfInBounds i (.int .i64 x.no) = ((wt X n (i + 1)).map iv).toArray := by
  have hi := (List.getElem?_eq_some_iff.1 hx).1
  have e : (wt X n i).set i x.no = wt X n (i + 1) := by
    unfold wt
    have hl : ((X.take i).map Lt.no).length = i := by rw [List.length_map, List.length_take, Nat.min_eq_left (by omega)]
    rw [List.set_append_right _ _ (by omega), hl, Nat.sub_self, show n - i = (n - (i + 1)) + 1 by omega, List.replicate_succ, List.set_cons_zero, List.take_add_one, hx]
    simp
  rw [← e]
  simp [List.map_set, iv]
set_option maxHeartbeats 2000000 in
theorem waiting_n {w : World} {lo d : Nat} {g : Int} {a : Option Addr} {X : List Lt} (hN : Hid (Nt w lo d a X g)) :
    Calls Tryd.prog 15 #[.pointer (some ⟨d, 0, none⟩)] w fun e w' => ∃ g', e = .returned (.slice (some ⟨g', 0, none⟩) X.length X.length) ∧ Hid (w'.heap[g']? = some (.cells ((X.map Lt.no).map iv).toArray 3 (0, 0)) ∧ Below w.heap.size w w' ∧ w.heap.size ≤ g') := by
  obtain ⟨n, c, h1, h2⟩ := hN.out.st
  have LX : Hid (n = X.length) := h2.len
  have nb : n ≤ 4096 := by rw [LX.out]; exact hN.out.ln
  have c0 : w.cell? ⟨d, 0, none⟩ = some (.slice a n c) := (cel2 h1).1
  have A : Hid (Rw w lo 71 EL a n c X) := h2
  have D1 : Hid (w.heap[d]? = some (.cells #[.slice a n c, .int .i64 g] 58 (0, 0))) := h1
  have mk := make_ints n nb w
  rw [← LX.out]
  clear h1 h2
  obtain ⟨q, Hq⟩ : ∃ q, Hid (w.heap.size = q) := ⟨_, rfl⟩
  obtain ⟨w1, Hw1⟩ : ∃ w1, Hid (w.alloc (.cells ((List.replicate n (0 : Int)).map iv).toArray 3) = w1) := ⟨_, rfl⟩
  have B1 : Hid (Below w.heap.size w w1) := by rw [← Hw1.out]; exact alloc1 w _
  have K1 : Hid (w1.heap[q]? = some (.cells ((wt X n 0).map iv).toArray 3 (0, 0))) := by
    have e : wt X n 0 = List.replicate n 0 := by simp [wt]
    rw [← Hw1.out, ← Hq.out, e]
    exact heap_alloc_new w _
  have c1 : w1.cell? ⟨d, 0, none⟩ = some (.slice a n c) := (cel2 ((B1.out.block d (Array.getElem?_eq_some_iff.1 D1.out).1).trans D1.out)).1
  rw [Hq.out, Hw1.out] at mk
  go_enter Tryd.func15, Tryd.ntmps15
  go_wp2
  go_loopw [17] (fun ti wr => ∃ i : Nat, i ≤ n ∧ ti = .int .i64 (i : Int) ∧ Hid (Below w.heap.size w wr ∧ wr.heap[q]? = some (.cells ((wt X n i).map iv).toArray 3 (0, 0)))) (fun ti _ => n - (intOf ti).toNat)
  case atStart => exact ⟨0, by omega, rfl, B1.out, K1.out⟩
  case round =>
    obtain ⟨i, hi, rfl, HB⟩ := hrel
    by_cases hlt : i < n
    · have i3 : (i : Int) < (n : Int) := by omega
      have kx : i < X.length := by rw [← LX.out]; exact hlt
      obtain ⟨b, rfl, q1, q2, e1⟩ := (A.out.below HB.out.1).at_ kx
      obtain ⟨x, Hx⟩ : ∃ x, Hid (X[i] = x) := ⟨X[i], (rfl : X[i] = X[i])⟩
      rw [Hx.out] at e1
      have EX : Hid (X[i]? = some x) := by show _ = _; rw [← Hx.out]; exact List.getElem?_eq_getElem kx
      have d0 : wr.cell? ⟨b, i * 4, none⟩ = some (.int .i64 x.no) := e1 0 _ rfl
      have d1 : wr.cell? ⟨b, i * 4 + 1, none⟩ = some (.int .i64 x.fm) := e1 1 _ rfl
      have d2 : wr.cell? ⟨b, i * 4 + 2, none⟩ = some (.int .i64 x.tt) := e1 2 _ rfl
      have d3 : wr.cell? ⟨b, i * 4 + 3, none⟩ = some (.string x.bs) := e1 3 _ rfl
      have k0 : Hid (∀ o, (wr.alloc o).heap[q]? = some (.cells ((wt X n i).map iv).toArray 3 (0, 0))) := fun o => (Below.heap_alloc wr o q (Array.getElem?_eq_some_iff.1 HB.out.2).1).trans HB.out.2
      have k1 : ∀ o, ∃ v, (wr.alloc o).cell? ⟨q, i, none⟩ = some v := fun o => by
        have h := k0.out o
        have hl := wt_len (i := i) LX.out hi
        refine ⟨.int .i64 ((wt X n i)[i]'(by omega)), ?_⟩
        simp [World.cell?, h, iv, List.getElem?_eq_getElem (show i < (wt X n i).length by omega)]
      have k2 : ∀ o, (wr.alloc o).frozen? ⟨q, i, none⟩ = false := fun o => by simp [World.frozen?, k0.out o]
      obtain ⟨v0, kv⟩ := k1 (.cells #[.int .i64 x.no, .int .i64 x.fm, .int .i64 x.tt, .string x.bs] 71)
      have BN : Hid (Below w.heap.size w ((wr.alloc (.cells #[.int .i64 x.no, .int .i64 x.fm, .int .i64 x.tt, .string x.bs] 71)).setCell ⟨q, i, none⟩ (.int .i64 x.no))) := (HB.out.1.trans ((alloc1 wr _).mono HB.out.1.size)).setCell (by rw [Hq.out]; exact Nat.le_refl _) _
      have KN : Hid (((wr.alloc (.cells #[.int .i64 x.no, .int .i64 x.fm, .int .i64 x.tt, .string x.bs] 71)).setCell ⟨q, i, none⟩ (.int .i64 x.no)).heap[q]? = some (.cells ((wt X n (i + 1)).map iv).toArray 3 (0, 0))) := by
        have h := set_blk (k0.out (.cells #[.int .i64 x.no, .int .i64 x.fm, .int .i64 x.tt, .string x.bs] 71)) i (.int .i64 x.no)
        rw [wt_set LX.out EX.out] at h
        exact h
      clear e1 k1 Hx q1 q2
      go_wp2
      go_roundw
      case rel => exact ⟨i + 1, by omega, by go_num, BN.out, KN.out⟩
      case measure => simp [intOf]; omega
    · obtain rfl : i = n := by omega
      go_wp2
      go_ret
      refine ⟨q, rfl, ?_, HB.out.1, by rw [Hq.out]; exact Nat.le_refl _⟩
      have h := HB.out.2
      have e : wt X i i = X.map Lt.no := by unfold wt; rw [List.take_of_length_le (by have := LX.out; omega)]; simp
      rw [e] at h
      exact h
theorem nth_none {w : World} {lo d : Nat} {g k : Int} {a : Option Addr} (hN : Hid (Nt w lo d a [] g)) :
    Calls Tryd.prog 11 #[.pointer (some ⟨d, 0, none⟩), .int .i64 k] w fun e w' => e = .returned (.tuple #[.int .i64 0, .bool false]) ∧ w' = w := by
  obtain ⟨n, c, h1, h2⟩ := hN.out.st
  have LX : n = 0 := h2.len
  subst LX
  have c0 : w.cell? ⟨d, 0, none⟩ = some (.slice a 0 c) := (cel2 h1).1
  clear h1 h2
  go_enter Tryd.func11, Tryd.ntmps11
  go_wp2
  go_ret2
  exact ⟨rfl, rfl⟩
set_option maxHeartbeats 1000000 in
theorem nth_some {w : World} {lo d : Nat} {g k : Int} {a : Option Addr} {X : List Lt} {m : Nat} {x : Lt} (hN : Hid (Nt w lo d a X g)) (hm : Hid (k % (X.length : Int) = (m : Int))) (hx : Hid (X[m]? = some x)) :
    Calls Tryd.prog 11 #[.pointer (some ⟨d, 0, none⟩), .int .i64 k] w fun e w' => e = .returned (.tuple #[.int .i64 x.no, .bool true]) ∧ w' = w := by
  obtain ⟨n, c, h1, h2⟩ := hN.out.st
  have hl := h2.len
  have ml := (List.getElem?_eq_some_iff.1 hx.out).1
  obtain ⟨b, rfl, q1, q2, e1⟩ := h2.at_ ml
  rw [(List.getElem?_eq_some_iff.1 hx.out).2] at e1
  have c0 : w.cell? ⟨d, 0, none⟩ = some (.slice (some ⟨b, 0, none⟩) n c) := (cel2 h1).1
  have d0 : w.cell? ⟨b, m * 4, none⟩ = some (.int .i64 x.no) := e1 0 _ rfl
  have mn : m < n := by omega
  have nb : n ≤ 4096 := by rw [hl]; exact hN.out.ln
  have HM : Hid (k % (n : Int) = (m : Int)) := by rw [hl]; exact hm
  have i0 : (m : Int) < (n : Int) := by omega
  have i1 : ((n : Int) == 0) = false := by simp; omega
  have i2 : ¬ ((n : Int) = 0) := by omega
  clear h1 h2 hl e1 q1 q2 ml hm
  obtain ⟨r, HR⟩ : ∃ r, Hid (k.tmod (n : Int) = r) := ⟨_, rfl⟩
  have tm : k.tmod (n : Int) = r := HR.out
  have rb : -(n : Int) < r ∧ r < (n : Int) := by
    rw [← HR.out]
    have h1 := Int.tmod_lt_of_pos k (show (0 : Int) < (n : Int) by omega)
    have h2 := Int.lt_tmod_of_pos k (show (0 : Int) < (n : Int) by omega)
    exact ⟨by omega, h1⟩
  have KR : Hid (r = if r < 0 then (m : Int) - (n : Int) else (m : Int)) := by
    show _ = _
    have h1 := Int.tmod_eq_emod (a := k) (b := (n : Int))
    rw [HM.out, HR.out] at h1
    split at h1
    · split <;> omega
    · have : ((n : Int).natAbs : Int) = (n : Int) := by omega
      split <;> omega
  by_cases h0 : r < 0
  · have e2 : r + (n : Int) = (m : Int) := by have := KR.out; rw [if_pos h0] at this; omega
    go_enter Tryd.func11, Tryd.ntmps11
    go_wp2
    go_ret2
    exact ⟨rfl, rfl⟩
  · have e2 : r = (m : Int) := by have := KR.out; rw [if_neg h0] at this; omega
    subst e2
    go_enter Tryd.func11, Tryd.ntmps11
    go_wp2
    go_ret2
    exact ⟨rfl, rfl⟩
end Go.Proofs.YtkjebbpmafhpgaaDoor
