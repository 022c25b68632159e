/- Commands as opaque arrays; slices.EqualFunc (f38), Begins (f18). -/
import Derived.Test.YtfabnnbljkkihaaGreatDoorLb
namespace Go.Proofs.YtfabnnbljkkihaaGreatDoor
open Go.ChangeShapes Go.WideShapes Go.ChangeAt Go.RowKit
set_option maxRecDepth 20000
set_option linter.unusedVariables false
set_option linter.unusedSimpArgs false
theorem info29 {A : Array Value} (h : A.size = 18) : (Tryz.prog.info? 29).map (·.size) = some A.size := by rw [h]; kernel_rfl
theorem encX_sz {A : Array Value} {x : Cx} (h : A = (encX x).toArray) : A.size = 18 := by rw [h]; rfl
theorem encX_all {A : Array Value} {x : Cx} (h : A = (encX x).toArray) : A.all (·.oneCell') = true := by rw [h]; exact all_oneCell_toArray (encX_one _)
theorem wpList_ldA {ops : Array Oper} {rest : List Oper} {op : Oper} {a : Act} {w : World} {Q : Exit → Act → World → Prop} (hgd : op.guard = none) (x : Operand) (ho : op.op = .load 29 x)
    (b o : Nat) (hx : a.eval x = .pointer (some ⟨b, o, none⟩)) {A : Array Value} {c : Cx} (hA : A = (encX c).toArray) (hc : w.rangeAt b o (encX c))
    (h : wpList Tryz.prog ops Q rest (a.put op.dst (.agg A)) w) : wpList Tryz.prog ops Q (op :: rest) a w := by
  subst hA
  exact wpList_load_mid hgd 29 x ho b o hx _ _ hc Tryz.underlying29 rfl (by rw [encX_len]; kernel_rfl) h
/- a box for a command: laid and filled -/
theorem box_new (W : World) (A : Array Value) : ∃ w2, Hid ((W.alloc (.cells #[.int .i64 0, .int .i64 0, .int .i64 0, .int .i64 0, .string ⟨#[]⟩, .string ⟨#[]⟩, .int .i64 0, .int .i64 0, .int .i64 0, .int .i64 0, .int .i64 0, .int .i64 0, .int .i64 0, .string ⟨#[]⟩, .int .i64 0, .slice none 0 0, .int .i64 0, .int .i64 0] 29)).setRow W.heap.size A = w2) ∧ Hid (w2.heap[W.heap.size]? = some (.cells A 29 (0, 0)) ∧ Below W.heap.size W w2 ∧ w2.heap.size = W.heap.size + 1) :=
  ⟨_, rfl, setRow_heap _ _ _ _ _ _ (heap_alloc_new W _), below_setRow (alloc1 W _) (Nat.le_refl _) A, by rw [setRow_size]; simp⟩
/- same, of two arrays -/
theorem same_x {w : World} {A B : Array Value} {x y : Cx} {lo lo2 : Nat} (hA : Hid (A = (encX x).toArray)) (hB : Hid (B = (encX y).toArray)) (h1 : Hid (Irow w lo x.pa x.pn x.cm.ps)) (h2 : Hid (Irow w lo2 y.pa y.pn y.cm.ps)) :
    Calls Tryz.prog 39 #[.agg A, .agg B] w fun e w' => e = .returned (.bool (decide (x.cm = y.cm))) ∧ Hid (Below w.heap.size w w') := by
  rw [hA.out, hB.out]
  exact same_cmd x y h1 h2
set_option maxHeartbeats 4000000 in
theorem equalFunc_n {w : World} {lo lo2 : Nat} {a b : Option Addr} {n m c d : Nat} {X Y : List Cx} (hA : Hid (Cms w lo a n X)) (hB : Hid (Cms w lo2 b m Y)) :
    Calls Tryz.prog 38 #[.slice a n c, .slice b m d, .func (.func 39) #[] #[]] w fun e w' => e = .returned (.bool (decide (led X = led Y))) ∧ Hid (Below w.heap.size w w') := by
  have hsz := hA.out.sz
  have hsz2 := hB.out.sz
  by_cases hnm : n = m
  · subst hnm
    have LL : Hid (X.length = n ∧ Y.length = n) := ⟨hA.out.len.symm, hB.out.len.symm⟩
    go_enter Tryz.func38, Tryz.ntmps38
    go_wp2
    go_loopw [17] (fun ti wr => ∃ k : Nat, k ≤ n ∧ ti = .int .i64 k ∧ Hid (∀ j, j < k → (led X)[j]? = (led Y)[j]?) ∧ Hid (Below w.heap.size w wr)) (fun ti _ => n - (intOf ti).toNat)
    case atStart => exact ⟨0, by omega, rfl, fun j hj => by omega, Below.refl _ _⟩
    case round =>
      obtain ⟨k, hk, rfl, HK, HB⟩ := hrel
      by_cases hlt : k < n
      · have i3 : (k : Int) < (n : Int) := by omega
        have kx : k < X.length := by rw [LL.out.1]; exact hlt
        have ky : k < Y.length := by rw [LL.out.2]; exact hlt
        obtain ⟨b1, o1, rfl, e1⟩ := (hA.out.below HB.out).at_ kx
        obtain ⟨b2, o2, rfl, e2⟩ := (hB.out.below HB.out).at_ ky
        obtain ⟨x, Hx⟩ : ∃ x, Hid (X[k] = x) := ⟨X[k], (rfl : X[k] = X[k])⟩
        obtain ⟨y, Hy⟩ : ∃ y, Hid (Y[k] = y) := ⟨Y[k], (rfl : Y[k] = Y[k])⟩
        rw [Hx.out] at e1
        rw [Hy.out] at e2
        have PX : Hid (Irow wr lo x.pa x.pn x.cm.ps) := ((hA.out.below HB.out).ps x (by rw [← Hx.out]; exact List.getElem_mem kx)).1
        have PY : Hid (Irow wr lo2 y.pa y.pn y.cm.ps) := ((hB.out.below HB.out).ps y (by rw [← Hy.out]; exact List.getElem_mem ky)).1
        have EX : Hid ((led X)[k]? = some x.cm) := by show _ = _; rw [← Hx.out]; simp [led, kx]
        have EY : Hid ((led Y)[k]? = some y.cm) := by show _ = _; rw [← Hy.out]; simp [led, ky]
        obtain ⟨A, HA⟩ : ∃ A, Hid (A = (encX x).toArray) := ⟨_, rfl⟩
        obtain ⟨B, HBB⟩ : ∃ A, Hid (A = (encX y).toArray) := ⟨_, rfl⟩
        have a18 : A.size = 18 := encX_sz HA.out
        have b18 : B.size = 18 := encX_sz HBB.out
        have AA : Hid (A.all (·.oneCell') = true) := encX_all HA.out
        have BB : Hid (B.all (·.oneCell') = true) := encX_all HBB.out
        have E1 : Hid (wr.rangeAt b1 (o1 + k * 18) (encX x)) := e1
        obtain ⟨w2, Hw2, K2⟩ := box_new wr A
        have E2 : Hid (w2.rangeAt b2 (o2 + k * 18) (encX y)) := Below.range e2 K2.out.2.1
        clear e1 e2
        obtain ⟨g1, Hg1⟩ : ∃ g, Hid (wr.heap.size = g) := ⟨_, rfl⟩
        go_upto_region 6 with first
          | (refine wpList_ldA (by rfl) (.tmp 20) (by rfl) b1 (o1 + k * 18) (by rfl) HA.out E1.out ?_)
          | (refine wpList_store_row (by rfl) 29 (.tmp 8) (.tmp 21) (by rfl) wr.heap.size A (by rfl) (by rfl) 29 _ (heap_alloc_new wr _) (info29 a18) a18.symm AA.out ?_)
        rw [Hw2.out, Hg1.out]
        rw [Hg1.out] at K2
        obtain ⟨w3, Hw3, K3⟩ := box_new w2 B
        obtain ⟨g2, Hg2⟩ : ∃ g, Hid (w2.heap.size = g) := ⟨_, rfl⟩
        go_upto_region 7 with first
          | (refine wpList_ldA (by rfl) (.tmp 24) (by rfl) b2 (o2 + k * 18) (by rfl) HBB.out E2.out ?_)
          | (refine wpList_store_row (by rfl) 29 (.tmp 9) (.tmp 25) (by rfl) w2.heap.size B (by rfl) (by rfl) 29 _ (heap_alloc_new w2 _) (info29 b18) b18.symm BB.out ?_)
        rw [Hw3.out, Hg2.out]
        rw [Hg2.out] at K3
        have B3 : Hid (Below wr.heap.size wr w3) := by
          have h1 := K2.out.2.1
          have h2 := K3.out.2.1
          rw [← Hg1.out] at h1
          rw [← Hg2.out] at h2
          exact h1.trans (h2.mono h1.size)
        have k3 : Hid (w3.heap[g1]? = some (.cells A 29 (0, 0))) := (K3.out.2.1.block g1 (by have h1 := (Array.getElem?_eq_some_iff.1 K2.out.1).1; have := Hg2.out; omega)).trans K2.out.1
        have k4 : Hid (w3.heap[g2]? = some (.cells B 29 (0, 0))) := K3.out.1
        have P3 : Hid (Irow w3 lo x.pa x.pn x.cm.ps) := PX.out.below B3.out
        have Q3 : Hid (Irow w3 lo2 y.pa y.pn y.cm.ps) := PY.out.below B3.out
        clear K2 K3 Hw2 Hw3 Hg1 Hg2 E1 E2
        by_cases hxy : x.cm = y.cm
        · have Hr : Hid (decide (x.cm = y.cm) = true) := decide_eq_true hxy
          have NX : Hid (∀ j, j < k + 1 → (led X)[j]? = (led Y)[j]?) := fun j hj => by
            by_cases hjk : j = k
            · subst hjk; rw [EX.out, EY.out, hxy]
            · exact HK.out j (by omega)
          clear hxy
          go_wp2_with (first
            | (refine wpList_load_row (by rfl) 29 (.tmp 8) (by rfl) g1 (by rfl) 29 A (0, 0) _ k3.out Tryz.underlying29 rfl (info29 a18) ?_)
            | (refine wpList_load_row (by rfl) 29 (.tmp 9) (by rfl) g2 (by rfl) 29 B (0, 0) _ k4.out Tryz.underlying29 rfl (info29 b18) ?_)
            | (go_at_call 39; refine (same_x HA HBB P3 Q3).mono ?_; rintro e w4 ⟨rfl, H4⟩; rw [Hr.out]))
          go_roundw
          case rel => exact ⟨k + 1, by omega, by go_num, NX.out, (HB.out.trans (B3.out.mono HB.out.size)).trans (H4.out.mono (Nat.le_trans HB.out.size B3.out.size))⟩
          case measure => simp [intOf]; omega
        · have Hr : Hid (decide (x.cm = y.cm) = false) := decide_eq_false hxy
          have NL : Hid (decide (led X = led Y) = false) := decide_eq_false (fun e => hxy (by have h1 := EX.out; rw [e, EY.out] at h1; exact (Option.some.inj h1).symm))
          clear hxy
          go_wp2_with (first
            | (refine wpList_load_row (by rfl) 29 (.tmp 8) (by rfl) g1 (by rfl) 29 A (0, 0) _ k3.out Tryz.underlying29 rfl (info29 a18) ?_)
            | (refine wpList_load_row (by rfl) 29 (.tmp 9) (by rfl) g2 (by rfl) 29 B (0, 0) _ k4.out Tryz.underlying29 rfl (info29 b18) ?_)
            | (go_at_call 39; refine (same_x HA HBB P3 Q3).mono ?_; rintro e w4 ⟨rfl, H4⟩; rw [Hr.out]))
          go_ret
          exact ⟨by rw [NL.out]; rfl, (HB.out.trans (B3.out.mono HB.out.size)).trans (H4.out.mono (Nat.le_trans HB.out.size B3.out.size))⟩
      · have ein : k = n := by omega
        subst ein
        have NL : Hid (decide (led X = led Y) = true) := decide_eq_true (by
          refine List.ext_getElem? fun j => ?_
          by_cases hj : j < k
          · exact HK.out j hj
          · rw [List.getElem?_eq_none (by simp [led, LL.out.1]; omega), List.getElem?_eq_none (by simp [led, LL.out.2]; omega)])
        go_wp2
        go_ret
        exact ⟨by rw [NL.out]; rfl, HB.out⟩
  · have NL : Hid (decide (led X = led Y) = false) := decide_eq_false (fun e => hnm (by have h1 := congrArg List.length e; simp [led] at h1; have := hA.out.len; have := hB.out.len; omega))
    have i1 : ¬ ((n : Int) = (m : Int)) := by omega
    go_enter Tryz.func38, Tryz.ntmps38
    go_wp2
    go_ret
    exact ⟨by rw [NL.out]; rfl, Below.refl _ _⟩

theorem led_take (X : List Cx) (k : Nat) : led (X.take k) = (led X).take k := by simp [led, List.map_take]
theorem led_len (X : List Cx) : (led X).length = X.length := by simp [led]
set_option maxHeartbeats 2000000 in
theorem begins_l {w : World} {lo lo2 : Nat} {a b : Option Addr} {n m c d : Nat} {X Y : List Cx} (hA : Hid (Cms w lo a n X)) (hB : Hid (Cms w lo2 b m Y)) (hz : m ≤ d) (hb : Hid (b = none → d = 0)) :
    Calls Tryz.prog 18 #[.slice a n c, .slice b m d] w fun e w' => e = .returned (.bool (decide (led X <+: led Y))) ∧ Hid (Below w.heap.size w w') := by
  have hsz := hA.out.sz
  have hsz2 := hB.out.sz
  have LX : Hid (X.length = n) := hA.out.len.symm
  have LY : Hid (Y.length = m) := hB.out.len.symm
  by_cases hnm : n ≤ m
  · have i1 : (n : Int) ≤ (m : Int) := by omega
    have i2 : n ≤ d := by omega
    have T : Hid (Cms w lo2 b n (Y.take n)) := hB.out.take hnm
    have HR : Hid (decide (led X = led (Y.take n)) = decide (led X <+: led Y)) := by
      show _ = _
      refine decide_eq_decide.2 ?_
      rw [led_take, List.prefix_iff_eq_take, led_len, LX.out]
    go_enter Tryz.func18, Tryz.ntmps18
    go_wp2_with (go_at_call 38; refine (equalFunc_n hA T).mono ?_; rintro e w1 ⟨rfl, H1⟩; rw [HR.out])
    go_ret
    exact ⟨rfl, H1.out⟩
  · have i1 : ¬ ((n : Int) ≤ (m : Int)) := by omega
    have HR : Hid (decide (led X <+: led Y) = false) := decide_eq_false (fun h => by
      have h1 := h.length_le
      rw [led_len, led_len, LX.out, LY.out] at h1
      omega)
    go_enter Tryz.func18, Tryz.ntmps18
    go_wp2
    go_ret
    exact ⟨by rw [HR.out]; rfl, Below.refl _ _⟩
end Go.Proofs.YtfabnnbljkkihaaGreatDoor
