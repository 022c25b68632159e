/- ledger's same (f39), slices.Equal of ints (f62). -/
import Derived.Test.YtfabnnbljkkihaaGreatDoorAg
namespace Go.Proofs.YtfabnnbljkkihaaGreatDoor
open Go.ChangeShapes Go.WideShapes Go.ChangeAt Go.RowKit
set_option maxRecDepth 20000
set_option linter.unusedVariables false
set_option linter.unusedSimpArgs false
set_option maxHeartbeats 1000000 in
theorem equalInts_n {w : World} {lo lo2 : Nat} {a b : Option Addr} {n m c d : Nat} {l r : List Int} (hA : Hid (Irow w lo a n l)) (hB : Hid (Irow w lo2 b m r)) :
    Calls Tryz.prog 62 #[.slice a n c, .slice b m d] w fun e w' => e = .returned (.bool (decide (l = r))) ∧ Hid (Below w.heap.size w w') := by
  have hsz := hA.out.sz
  have hsz2 := hB.out.sz
  by_cases hnm : n = m
  · subst hnm
    have LL : Hid (l.length = n ∧ r.length = n) := ⟨hA.out.len.symm, hB.out.len.symm⟩
    go_enter Tryz.func62, Tryz.ntmps62
    go_wp2
    go_loopw [13] (fun ti wr => ∃ k : Nat, k ≤ n ∧ ti = .int .i64 k ∧ Hid (∀ j, j < k → l.getD j 0 = r.getD j 0) ∧ Hid (Below w.heap.size w wr)) (fun ti _ => n - (intOf ti).toNat)
    case atStart => exact ⟨0, by omega, rfl, fun j hj => by omega, Below.refl _ _⟩
    case round =>
      obtain ⟨k, hk, rfl, HK, HB⟩ := hrel
      by_cases hlt : k < n
      · have i3 : (k : Int) < (n : Int) := by omega
        obtain ⟨b1, o1, rfl, e1⟩ := (hA.out.below HB.out).at_ hlt
        obtain ⟨b2, o2, rfl, e2⟩ := (hB.out.below HB.out).at_ hlt
        obtain ⟨x, Hx⟩ : ∃ x, Hid (l.getD k 0 = x) := ⟨_, rfl⟩
        obtain ⟨y, Hy⟩ : ∃ y, Hid (r.getD k 0 = y) := ⟨_, rfl⟩
        rw [Hx.out] at e1
        rw [Hy.out] at e2
        by_cases hxy : x = y
        · subst hxy
          have NX : Hid (∀ j, j < k + 1 → l.getD j 0 = r.getD j 0) := fun j hj => by
            by_cases hjk : j = k
            · subst hjk; rw [Hx.out, Hy.out]
            · exact HK.out j (by omega)
          go_wp2
          go_quiet (fail)
          go_wp2
          go_roundw
          case rel => exact ⟨k + 1, by omega, by go_num, NX.out, below_drewN HB.out _⟩
          case measure => simp [intOf]; omega
        · have NE : Hid (decide (l = r) = false) := decide_eq_false (fun h => hxy (by rw [← Hx.out, ← Hy.out, h]))
          go_wp2
          go_quiet (fail)
          go_wp2
          go_ret
          exact ⟨retB NE.out, below_drewN HB.out _⟩
      · have EQ : Hid (decide (l = r) = true) := decide_eq_true (List.ext_getElem (by rw [LL.out.1, LL.out.2]) (fun i h1 h2 => by
          have h3 := HK.out i (by have := LL.out; omega)
          simpa [List.getD, h1, h2] using h3))
        go_wp2
        go_ret
        exact ⟨retB EQ.out, HB.out⟩
  · have NE : Hid (decide (l = r) = false) := decide_eq_false (fun h => hnm (by rw [hA.out.len, hB.out.len, h]))
    have i3 : ¬ ((n : Int) = (m : Int)) := by omega
    go_enter Tryz.func62, Tryz.ntmps62
    go_wp2
    go_ret
    exact ⟨retB NE.out, Below.refl _ _⟩
set_option maxHeartbeats 4000000 in
theorem sm0 {w : World} {k : Int} {i0 : Int} {i1 : Int} {i2 : Int} {bu : ByteArray} {ke : ByteArray} {u0 : Int} {u1 : Int} {u2 : Int} {b0 : Int} {b1 : Int} {b2 : Int} {sz : Int} {et : ByteArray} {pt : Int} {tm : Int} {dy : Int} {k' : Int} {i0' : Int} {i1' : Int} {i2' : Int} {bu' : ByteArray} {ke' : ByteArray} {u0' : Int} {u1' : Int} {u2' : Int} {b0' : Int} {b1' : Int} {b2' : Int} {sz' : Int} {et' : ByteArray} {pt' : Int} {tm' : Int} {dy' : Int} {pa pa' : Option Addr} {pn pc pn' pc' : Nat} (h : ¬ k = k') :
    Calls Tryz.prog 39 #[.agg #[.int .i64 k, .int .i64 i0, .int .i64 i1, .int .i64 i2, .string bu, .string ke, .int .i64 u0, .int .i64 u1, .int .i64 u2, .int .i64 b0, .int .i64 b1, .int .i64 b2, .int .i64 sz, .string et, .int .i64 pt, .slice pa pn pc, .int .i64 tm, .int .i64 dy], .agg #[.int .i64 k', .int .i64 i0', .int .i64 i1', .int .i64 i2', .string bu', .string ke', .int .i64 u0', .int .i64 u1', .int .i64 u2', .int .i64 b0', .int .i64 b1', .int .i64 b2', .int .i64 sz', .string et', .int .i64 pt', .slice pa' pn' pc', .int .i64 tm', .int .i64 dy']] w fun e w' => e = .returned (.bool false) ∧ Hid (Below w.heap.size w w') := by
  go_enter Tryz.func39, Tryz.ntmps39
  go_wp2
  go_ret
  exact ⟨rfl, alloc2 _ _ _⟩
set_option maxHeartbeats 4000000 in
theorem sm1 {w : World} {k : Int} {i0 : Int} {i1 : Int} {i2 : Int} {bu : ByteArray} {ke : ByteArray} {u0 : Int} {u1 : Int} {u2 : Int} {b0 : Int} {b1 : Int} {b2 : Int} {sz : Int} {et : ByteArray} {pt : Int} {tm : Int} {dy : Int} {i0' : Int} {i1' : Int} {i2' : Int} {bu' : ByteArray} {ke' : ByteArray} {u0' : Int} {u1' : Int} {u2' : Int} {b0' : Int} {b1' : Int} {b2' : Int} {sz' : Int} {et' : ByteArray} {pt' : Int} {tm' : Int} {dy' : Int} {pa pa' : Option Addr} {pn pc pn' pc' : Nat} (h : ¬ (i0 = i0' ∧ i1 = i1' ∧ i2 = i2')) :
    Calls Tryz.prog 39 #[.agg #[.int .i64 k, .int .i64 i0, .int .i64 i1, .int .i64 i2, .string bu, .string ke, .int .i64 u0, .int .i64 u1, .int .i64 u2, .int .i64 b0, .int .i64 b1, .int .i64 b2, .int .i64 sz, .string et, .int .i64 pt, .slice pa pn pc, .int .i64 tm, .int .i64 dy], .agg #[.int .i64 k, .int .i64 i0', .int .i64 i1', .int .i64 i2', .string bu', .string ke', .int .i64 u0', .int .i64 u1', .int .i64 u2', .int .i64 b0', .int .i64 b1', .int .i64 b2', .int .i64 sz', .string et', .int .i64 pt', .slice pa' pn' pc', .int .i64 tm', .int .i64 dy']] w fun e w' => e = .returned (.bool false) ∧ Hid (Below w.heap.size w w') := by
  have EQ : ∀ w, (Op.equalIn 10000 24 (.agg #[.int .i64 i0, .int .i64 i1, .int .i64 i2]) (.agg #[.int .i64 i0', .int .i64 i1', .int .i64 i2'])).run Tryz.prog w = .ok false w := fun w => by rw [eqId i0 i1 i2 i0' i1' i2' 9998 w, decide_eq_false h]
  go_enter Tryz.func39, Tryz.ntmps39
  go_wp2
  go_ret
  exact ⟨rfl, alloc2 _ _ _⟩
set_option maxHeartbeats 4000000 in
theorem sm2 {w : World} {k : Int} {i0 : Int} {i1 : Int} {i2 : Int} {bu : ByteArray} {ke : ByteArray} {u0 : Int} {u1 : Int} {u2 : Int} {b0 : Int} {b1 : Int} {b2 : Int} {sz : Int} {et : ByteArray} {pt : Int} {tm : Int} {dy : Int} {bu' : ByteArray} {ke' : ByteArray} {u0' : Int} {u1' : Int} {u2' : Int} {b0' : Int} {b1' : Int} {b2' : Int} {sz' : Int} {et' : ByteArray} {pt' : Int} {tm' : Int} {dy' : Int} {pa pa' : Option Addr} {pn pc pn' pc' : Nat} (h : ¬ bu = bu') :
    Calls Tryz.prog 39 #[.agg #[.int .i64 k, .int .i64 i0, .int .i64 i1, .int .i64 i2, .string bu, .string ke, .int .i64 u0, .int .i64 u1, .int .i64 u2, .int .i64 b0, .int .i64 b1, .int .i64 b2, .int .i64 sz, .string et, .int .i64 pt, .slice pa pn pc, .int .i64 tm, .int .i64 dy], .agg #[.int .i64 k, .int .i64 i0, .int .i64 i1, .int .i64 i2, .string bu', .string ke', .int .i64 u0', .int .i64 u1', .int .i64 u2', .int .i64 b0', .int .i64 b1', .int .i64 b2', .int .i64 sz', .string et', .int .i64 pt', .slice pa' pn' pc', .int .i64 tm', .int .i64 dy']] w fun e w' => e = .returned (.bool false) ∧ Hid (Below w.heap.size w w') := by
  have hs := strF h
  have Ei0 : ∀ w, (Op.equalIn 10000 24 (.agg #[.int .i64 i0, .int .i64 i1, .int .i64 i2]) (.agg #[.int .i64 i0, .int .i64 i1, .int .i64 i2])).run Tryz.prog w = .ok true w := fun w => by rw [eqId i0 i1 i2 i0 i1 i2 9998 w, decide_eq_true ⟨rfl, rfl, rfl⟩]
  go_enter Tryz.func39, Tryz.ntmps39
  go_wp2
  go_ret
  exact ⟨rfl, alloc2 _ _ _⟩
set_option maxHeartbeats 4000000 in
theorem sm3 {w : World} {k : Int} {i0 : Int} {i1 : Int} {i2 : Int} {bu : ByteArray} {ke : ByteArray} {u0 : Int} {u1 : Int} {u2 : Int} {b0 : Int} {b1 : Int} {b2 : Int} {sz : Int} {et : ByteArray} {pt : Int} {tm : Int} {dy : Int} {ke' : ByteArray} {u0' : Int} {u1' : Int} {u2' : Int} {b0' : Int} {b1' : Int} {b2' : Int} {sz' : Int} {et' : ByteArray} {pt' : Int} {tm' : Int} {dy' : Int} {pa pa' : Option Addr} {pn pc pn' pc' : Nat} (h : ¬ ke = ke') :
    Calls Tryz.prog 39 #[.agg #[.int .i64 k, .int .i64 i0, .int .i64 i1, .int .i64 i2, .string bu, .string ke, .int .i64 u0, .int .i64 u1, .int .i64 u2, .int .i64 b0, .int .i64 b1, .int .i64 b2, .int .i64 sz, .string et, .int .i64 pt, .slice pa pn pc, .int .i64 tm, .int .i64 dy], .agg #[.int .i64 k, .int .i64 i0, .int .i64 i1, .int .i64 i2, .string bu, .string ke', .int .i64 u0', .int .i64 u1', .int .i64 u2', .int .i64 b0', .int .i64 b1', .int .i64 b2', .int .i64 sz', .string et', .int .i64 pt', .slice pa' pn' pc', .int .i64 tm', .int .i64 dy']] w fun e w' => e = .returned (.bool false) ∧ Hid (Below w.heap.size w w') := by
  have hs := strF h
  have Ei0 : ∀ w, (Op.equalIn 10000 24 (.agg #[.int .i64 i0, .int .i64 i1, .int .i64 i2]) (.agg #[.int .i64 i0, .int .i64 i1, .int .i64 i2])).run Tryz.prog w = .ok true w := fun w => by rw [eqId i0 i1 i2 i0 i1 i2 9998 w, decide_eq_true ⟨rfl, rfl, rfl⟩]
  go_enter Tryz.func39, Tryz.ntmps39
  go_wp2
  go_ret
  exact ⟨rfl, alloc2 _ _ _⟩
set_option maxHeartbeats 4000000 in
theorem sm4 {w : World} {k : Int} {i0 : Int} {i1 : Int} {i2 : Int} {bu : ByteArray} {ke : ByteArray} {u0 : Int} {u1 : Int} {u2 : Int} {b0 : Int} {b1 : Int} {b2 : Int} {sz : Int} {et : ByteArray} {pt : Int} {tm : Int} {dy : Int} {u0' : Int} {u1' : Int} {u2' : Int} {b0' : Int} {b1' : Int} {b2' : Int} {sz' : Int} {et' : ByteArray} {pt' : Int} {tm' : Int} {dy' : Int} {pa pa' : Option Addr} {pn pc pn' pc' : Nat} (h : ¬ (u0 = u0' ∧ u1 = u1' ∧ u2 = u2')) :
    Calls Tryz.prog 39 #[.agg #[.int .i64 k, .int .i64 i0, .int .i64 i1, .int .i64 i2, .string bu, .string ke, .int .i64 u0, .int .i64 u1, .int .i64 u2, .int .i64 b0, .int .i64 b1, .int .i64 b2, .int .i64 sz, .string et, .int .i64 pt, .slice pa pn pc, .int .i64 tm, .int .i64 dy], .agg #[.int .i64 k, .int .i64 i0, .int .i64 i1, .int .i64 i2, .string bu, .string ke, .int .i64 u0', .int .i64 u1', .int .i64 u2', .int .i64 b0', .int .i64 b1', .int .i64 b2', .int .i64 sz', .string et', .int .i64 pt', .slice pa' pn' pc', .int .i64 tm', .int .i64 dy']] w fun e w' => e = .returned (.bool false) ∧ Hid (Below w.heap.size w w') := by
  have EQ : ∀ w, (Op.equalIn 10000 24 (.agg #[.int .i64 u0, .int .i64 u1, .int .i64 u2]) (.agg #[.int .i64 u0', .int .i64 u1', .int .i64 u2'])).run Tryz.prog w = .ok false w := fun w => by rw [eqId u0 u1 u2 u0' u1' u2' 9998 w, decide_eq_false h]
  have Ei0 : ∀ w, (Op.equalIn 10000 24 (.agg #[.int .i64 i0, .int .i64 i1, .int .i64 i2]) (.agg #[.int .i64 i0, .int .i64 i1, .int .i64 i2])).run Tryz.prog w = .ok true w := fun w => by rw [eqId i0 i1 i2 i0 i1 i2 9998 w, decide_eq_true ⟨rfl, rfl, rfl⟩]
  go_enter Tryz.func39, Tryz.ntmps39
  go_wp2
  go_ret
  exact ⟨rfl, alloc2 _ _ _⟩
set_option maxHeartbeats 4000000 in
theorem sm5 {w : World} {k : Int} {i0 : Int} {i1 : Int} {i2 : Int} {bu : ByteArray} {ke : ByteArray} {u0 : Int} {u1 : Int} {u2 : Int} {b0 : Int} {b1 : Int} {b2 : Int} {sz : Int} {et : ByteArray} {pt : Int} {tm : Int} {dy : Int} {b0' : Int} {b1' : Int} {b2' : Int} {sz' : Int} {et' : ByteArray} {pt' : Int} {tm' : Int} {dy' : Int} {pa pa' : Option Addr} {pn pc pn' pc' : Nat} (h : ¬ ((b0 = b0' ∧ b1 = b1' ∧ b2 = b2') ∧ sz = sz' ∧ et = et')) :
    Calls Tryz.prog 39 #[.agg #[.int .i64 k, .int .i64 i0, .int .i64 i1, .int .i64 i2, .string bu, .string ke, .int .i64 u0, .int .i64 u1, .int .i64 u2, .int .i64 b0, .int .i64 b1, .int .i64 b2, .int .i64 sz, .string et, .int .i64 pt, .slice pa pn pc, .int .i64 tm, .int .i64 dy], .agg #[.int .i64 k, .int .i64 i0, .int .i64 i1, .int .i64 i2, .string bu, .string ke, .int .i64 u0, .int .i64 u1, .int .i64 u2, .int .i64 b0', .int .i64 b1', .int .i64 b2', .int .i64 sz', .string et', .int .i64 pt', .slice pa' pn' pc', .int .i64 tm', .int .i64 dy']] w fun e w' => e = .returned (.bool false) ∧ Hid (Below w.heap.size w w') := by
  have EQ : ∀ w, (Op.equalIn 10000 26 (.agg #[.int .i64 b0, .int .i64 b1, .int .i64 b2, .int .i64 sz, .string et]) (.agg #[.int .i64 b0', .int .i64 b1', .int .i64 b2', .int .i64 sz', .string et'])).run Tryz.prog w = .ok false w := fun w => by rw [eqPc b0 b1 b2 sz et b0' b1' b2' sz' et' w, decide_eq_false h]
  have Ei0 : ∀ w, (Op.equalIn 10000 24 (.agg #[.int .i64 i0, .int .i64 i1, .int .i64 i2]) (.agg #[.int .i64 i0, .int .i64 i1, .int .i64 i2])).run Tryz.prog w = .ok true w := fun w => by rw [eqId i0 i1 i2 i0 i1 i2 9998 w, decide_eq_true ⟨rfl, rfl, rfl⟩]
  have Eu0 : ∀ w, (Op.equalIn 10000 24 (.agg #[.int .i64 u0, .int .i64 u1, .int .i64 u2]) (.agg #[.int .i64 u0, .int .i64 u1, .int .i64 u2])).run Tryz.prog w = .ok true w := fun w => by rw [eqId u0 u1 u2 u0 u1 u2 9998 w, decide_eq_true ⟨rfl, rfl, rfl⟩]
  go_enter Tryz.func39, Tryz.ntmps39
  go_wp2
  go_ret
  exact ⟨rfl, alloc2 _ _ _⟩
set_option maxHeartbeats 4000000 in
theorem sm6 {w : World} {k : Int} {i0 : Int} {i1 : Int} {i2 : Int} {bu : ByteArray} {ke : ByteArray} {u0 : Int} {u1 : Int} {u2 : Int} {b0 : Int} {b1 : Int} {b2 : Int} {sz : Int} {et : ByteArray} {pt : Int} {tm : Int} {dy : Int} {pt' : Int} {tm' : Int} {dy' : Int} {pa pa' : Option Addr} {pn pc pn' pc' : Nat} (h : ¬ pt = pt') :
    Calls Tryz.prog 39 #[.agg #[.int .i64 k, .int .i64 i0, .int .i64 i1, .int .i64 i2, .string bu, .string ke, .int .i64 u0, .int .i64 u1, .int .i64 u2, .int .i64 b0, .int .i64 b1, .int .i64 b2, .int .i64 sz, .string et, .int .i64 pt, .slice pa pn pc, .int .i64 tm, .int .i64 dy], .agg #[.int .i64 k, .int .i64 i0, .int .i64 i1, .int .i64 i2, .string bu, .string ke, .int .i64 u0, .int .i64 u1, .int .i64 u2, .int .i64 b0, .int .i64 b1, .int .i64 b2, .int .i64 sz, .string et, .int .i64 pt', .slice pa' pn' pc', .int .i64 tm', .int .i64 dy']] w fun e w' => e = .returned (.bool false) ∧ Hid (Below w.heap.size w w') := by
  have Ei0 : ∀ w, (Op.equalIn 10000 24 (.agg #[.int .i64 i0, .int .i64 i1, .int .i64 i2]) (.agg #[.int .i64 i0, .int .i64 i1, .int .i64 i2])).run Tryz.prog w = .ok true w := fun w => by rw [eqId i0 i1 i2 i0 i1 i2 9998 w, decide_eq_true ⟨rfl, rfl, rfl⟩]
  have Eu0 : ∀ w, (Op.equalIn 10000 24 (.agg #[.int .i64 u0, .int .i64 u1, .int .i64 u2]) (.agg #[.int .i64 u0, .int .i64 u1, .int .i64 u2])).run Tryz.prog w = .ok true w := fun w => by rw [eqId u0 u1 u2 u0 u1 u2 9998 w, decide_eq_true ⟨rfl, rfl, rfl⟩]
  have Epc : ∀ w, (Op.equalIn 10000 26 (.agg #[.int .i64 b0, .int .i64 b1, .int .i64 b2, .int .i64 sz, .string et]) (.agg #[.int .i64 b0, .int .i64 b1, .int .i64 b2, .int .i64 sz, .string et])).run Tryz.prog w = .ok true w := fun w => by rw [eqPc b0 b1 b2 sz et b0 b1 b2 sz et w, decide_eq_true ⟨⟨rfl, rfl, rfl⟩, rfl, rfl⟩]
  go_enter Tryz.func39, Tryz.ntmps39
  go_wp2
  go_ret
  exact ⟨rfl, alloc2 _ _ _⟩
set_option maxHeartbeats 4000000 in
theorem sm7 {w : World} {lo lo2 : Nat} {k : Int} {i0 : Int} {i1 : Int} {i2 : Int} {bu : ByteArray} {ke : ByteArray} {u0 : Int} {u1 : Int} {u2 : Int} {b0 : Int} {b1 : Int} {b2 : Int} {sz : Int} {et : ByteArray} {pt : Int} {tm : Int} {dy : Int} {tm' : Int} {dy' : Int} {ps ps' : List Int} {pa pa' : Option Addr} {pn pc pn' pc' : Nat} (hA : Hid (Irow w lo pa pn ps)) (hB : Hid (Irow w lo2 pa' pn' ps')) (h : ¬ ps = ps') :
    Calls Tryz.prog 39 #[.agg #[.int .i64 k, .int .i64 i0, .int .i64 i1, .int .i64 i2, .string bu, .string ke, .int .i64 u0, .int .i64 u1, .int .i64 u2, .int .i64 b0, .int .i64 b1, .int .i64 b2, .int .i64 sz, .string et, .int .i64 pt, .slice pa pn pc, .int .i64 tm, .int .i64 dy], .agg #[.int .i64 k, .int .i64 i0, .int .i64 i1, .int .i64 i2, .string bu, .string ke, .int .i64 u0, .int .i64 u1, .int .i64 u2, .int .i64 b0, .int .i64 b1, .int .i64 b2, .int .i64 sz, .string et, .int .i64 pt, .slice pa' pn' pc', .int .i64 tm', .int .i64 dy']] w fun e w' => e = .returned (.bool false) ∧ Hid (Below w.heap.size w w') := by
  have A2 : Hid (Irow ((w.alloc (.cells #[.int .i64 k, .int .i64 i0, .int .i64 i1, .int .i64 i2, .string bu, .string ke, .int .i64 u0, .int .i64 u1, .int .i64 u2, .int .i64 b0, .int .i64 b1, .int .i64 b2, .int .i64 sz, .string et, .int .i64 pt, .slice pa pn pc, .int .i64 tm, .int .i64 dy] 29)).alloc (.cells #[.int .i64 k, .int .i64 i0, .int .i64 i1, .int .i64 i2, .string bu, .string ke, .int .i64 u0, .int .i64 u1, .int .i64 u2, .int .i64 b0, .int .i64 b1, .int .i64 b2, .int .i64 sz, .string et, .int .i64 pt, .slice pa' pn' pc', .int .i64 tm', .int .i64 dy'] 29)) lo pa pn ps) := hA.out.below (alloc2 _ _ _)
  have B2 : Hid (Irow ((w.alloc (.cells #[.int .i64 k, .int .i64 i0, .int .i64 i1, .int .i64 i2, .string bu, .string ke, .int .i64 u0, .int .i64 u1, .int .i64 u2, .int .i64 b0, .int .i64 b1, .int .i64 b2, .int .i64 sz, .string et, .int .i64 pt, .slice pa pn pc, .int .i64 tm, .int .i64 dy] 29)).alloc (.cells #[.int .i64 k, .int .i64 i0, .int .i64 i1, .int .i64 i2, .string bu, .string ke, .int .i64 u0, .int .i64 u1, .int .i64 u2, .int .i64 b0, .int .i64 b1, .int .i64 b2, .int .i64 sz, .string et, .int .i64 pt, .slice pa' pn' pc', .int .i64 tm', .int .i64 dy'] 29)) lo2 pa' pn' ps') := hB.out.below (alloc2 _ _ _)
  have LB : Hid (Below w.heap.size w ((w.alloc (.cells #[.int .i64 k, .int .i64 i0, .int .i64 i1, .int .i64 i2, .string bu, .string ke, .int .i64 u0, .int .i64 u1, .int .i64 u2, .int .i64 b0, .int .i64 b1, .int .i64 b2, .int .i64 sz, .string et, .int .i64 pt, .slice pa pn pc, .int .i64 tm, .int .i64 dy] 29)).alloc (.cells #[.int .i64 k, .int .i64 i0, .int .i64 i1, .int .i64 i2, .string bu, .string ke, .int .i64 u0, .int .i64 u1, .int .i64 u2, .int .i64 b0, .int .i64 b1, .int .i64 b2, .int .i64 sz, .string et, .int .i64 pt, .slice pa' pn' pc', .int .i64 tm', .int .i64 dy'] 29))) := alloc2 _ _ _
  have Ei0 : ∀ w, (Op.equalIn 10000 24 (.agg #[.int .i64 i0, .int .i64 i1, .int .i64 i2]) (.agg #[.int .i64 i0, .int .i64 i1, .int .i64 i2])).run Tryz.prog w = .ok true w := fun w => by rw [eqId i0 i1 i2 i0 i1 i2 9998 w, decide_eq_true ⟨rfl, rfl, rfl⟩]
  have Eu0 : ∀ w, (Op.equalIn 10000 24 (.agg #[.int .i64 u0, .int .i64 u1, .int .i64 u2]) (.agg #[.int .i64 u0, .int .i64 u1, .int .i64 u2])).run Tryz.prog w = .ok true w := fun w => by rw [eqId u0 u1 u2 u0 u1 u2 9998 w, decide_eq_true ⟨rfl, rfl, rfl⟩]
  have Epc : ∀ w, (Op.equalIn 10000 26 (.agg #[.int .i64 b0, .int .i64 b1, .int .i64 b2, .int .i64 sz, .string et]) (.agg #[.int .i64 b0, .int .i64 b1, .int .i64 b2, .int .i64 sz, .string et])).run Tryz.prog w = .ok true w := fun w => by rw [eqPc b0 b1 b2 sz et b0 b1 b2 sz et w, decide_eq_true ⟨⟨rfl, rfl, rfl⟩, rfl, rfl⟩]
  have Hr : Hid (decide (ps = ps') = false) := decide_eq_false h
  clear h
  go_enter Tryz.func39, Tryz.ntmps39
  go_wp2_with (go_at_call 62; refine (equalInts_n A2 B2).mono ?_; rintro e w1 ⟨rfl, H1⟩; rw [Hr.out])
  go_ret
  exact ⟨rfl, LB.out.trans (H1.out.mono LB.out.size)⟩
end Go.Proofs.YtfabnnbljkkihaaGreatDoor
