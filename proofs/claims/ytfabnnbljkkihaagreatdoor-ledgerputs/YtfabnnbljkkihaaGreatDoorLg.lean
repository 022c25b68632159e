/- Put (f11), Place (f15), the document's Place (f16), Newest (f17). -/
import Derived.Test.YtfabnnbljkkihaaGreatDoorLf
import Derived.Test.YtfabnnbljkkihaaGreatDoorLd
import Derived.Test.YtfabnnbljkkihaaGreatDoorEm
namespace Go.Proofs.YtfabnnbljkkihaaGreatDoor
open Go.ChangeShapes Go.WideShapes Go.ChangeAt Go.RowKit
set_option maxRecDepth 20000
set_option linter.unusedVariables false
set_option linter.unusedSimpArgs false
theorem cell_arr {W : World} {g i : Nat} {A : Array Value} {t : TypeId} {fr : Nat × Nat} {v : Value} (h : W.heap[g]? = some (.cells A t fr)) (hv : A[i]? = some v) : W.cell? ⟨g, i, none⟩ = some v := by simp [World.cell?, h, hv]
theorem cms_one {w : World} {lo g : Nat} {x : Cx} (h : w.heap[g]? = some (.cells (encX x).toArray 29 (0, 0))) (hlo : lo ≤ g) (hp : Irow w lo x.pa x.pn x.cm.ps) (hz : x.pa = none → x.pc = 0) (hs : x.cm.bu.size ≤ 281474976710656 ∧ x.cm.ke.size ≤ 281474976710656 ∧ x.cm.et.size ≤ 281474976710656) : Cms w lo (some ⟨g, 0, none⟩) 1 [x] := by
  refine ⟨rfl, by omega, .inr ⟨g, 0, rfl, hlo, (Array.getElem?_eq_some_iff.1 h).1, ?_⟩, fun y hy => ?_, fun y hy => ?_⟩
  · have := range_blk h
    simpa [flat] using this
  · obtain rfl := List.mem_singleton.1 hy
    exact ⟨hp, hz⟩
  · obtain rfl := List.mem_singleton.1 hy
    exact hs
section
variable {w : World} {lo lo2 : Nat} {a : Option Addr} {n c : Nat} {X : List Cx} {A : Array Value} {x : Cx}
set_option maxHeartbeats 2000000 in
theorem put_there {p : Nat} (hA : Hid (Cms w lo a n X)) (hX : Hid (A = (encX x).toArray)) (hp : Hid (plc (led X) x.cm.i0 x.cm.i1 x.cm.i2 = p)) (hn : p < n) :
    Calls Tryz.prog 11 #[.slice a n c, .agg A] w fun e w' => ∃ a' c', e = .returned (.tuple #[.slice a' n c', .int .i64 ((p : Int) + 1), .nilIface]) ∧ Hid (∃ Y, led Y = led X ∧ Oc w' w.heap.size a' n c' Y ∧ Below w.heap.size w w') := by
  have hsz := hA.out.sz
  have a18 : A.size = 18 := encX_sz hX.out
  obtain ⟨w1, Hw1⟩ : ∃ w1, Hid (w.alloc (.cells A 29) = w1) := ⟨_, rfl⟩
  obtain ⟨g, Hg⟩ : ∃ g, Hid (w.heap.size = g) := ⟨_, rfl⟩
  have B1 : Hid (Below w.heap.size w w1) := by rw [← Hw1.out]; exact alloc1 w _
  have k1 : Hid (w1.heap[g]? = some (.cells A 29 (0, 0))) := by rw [← Hw1.out, ← Hg.out]; exact heap_alloc_new w _
  have A1 : Hid (Cms w1 lo a n X) := hA.out.below B1.out
  have c1 : w1.cell? ⟨g, 1, none⟩ = some (.int .i64 x.cm.i0) := cell_arr k1.out (by rw [hX.out]; rfl)
  have c2 : w1.cell? ⟨g, 2, none⟩ = some (.int .i64 x.cm.i1) := cell_arr k1.out (by rw [hX.out]; rfl)
  have c3 : w1.cell? ⟨g, 3, none⟩ = some (.int .i64 x.cm.i2) := cell_arr k1.out (by rw [hX.out]; rfl)
  go_enter Tryz.func11, Tryz.ntmps11
  go_upto_region 1 with (fail)
  rw [Hw1.out, Hg.out]
  clear Hw1
  go_upto_region 3 with (go_at_call 35; refine (find_yes A1 hp hn).mono ?_; rintro e w2 ⟨rfl, H2⟩)
  have B2 : Hid (Below w.heap.size w w2) := B1.out.trans (H2.out.mono B1.out.size)
  have A2 : Hid (Cms w2 lo a n X) := hA.out.below B2.out
  have N2 : Hid (Cms w2 0 none 0 []) := Cms.nil _ _ _
  go_wp2_with (go_at_call 36; refine (copied_n A2 N2 (by omega)).mono ?_; rintro e w3 ⟨a', c', rfl, H3⟩)
  refine bodyPost_ret (results_tmp3 rfl _ _ _) rfl ?_
  refine ⟨a', c', rfl, ?_⟩
  obtain ⟨Y, h1, h2, h3⟩ := H3.out
  exact ⟨Y, by rw [h1]; simp [led], h2.mono B2.out.size, B2.out.trans (h3.mono B2.out.size)⟩
set_option maxHeartbeats 2000000 in
theorem put_new (hA : Hid (Cms w lo a n X)) (hX : Hid (A = (encX x).toArray)) (hP : Hid (Irow w lo2 x.pa x.pn x.cm.ps)) (hz : Hid (x.pa = none → x.pc = 0)) (hT : Hid (x.cm.bu.size ≤ 281474976710656 ∧ x.cm.ke.size ≤ 281474976710656 ∧ x.cm.et.size ≤ 281474976710656)) (hp : Hid (plc (led X) x.cm.i0 x.cm.i1 x.cm.i2 = n)) (hn : n < 4096) :
    Calls Tryz.prog 11 #[.slice a n c, .agg A] w fun e w' => ∃ a' c', e = .returned (.tuple #[.slice a' (n + 1) c', .int .i64 ((n : Int) + 1), .nilIface]) ∧ Hid (∃ Y, led Y = led X ++ [x.cm] ∧ Oc w' w.heap.size a' (n + 1) c' Y ∧ Below w.heap.size w w') := by
  have i1 : ¬ ((4096 : Int) ≤ (n : Int)) := by omega
  have i2 : (n : Int) < 4096 := by omega
  have a18 : A.size = 18 := encX_sz hX.out
  obtain ⟨w1, Hw1⟩ : ∃ w1, Hid (w.alloc (.cells A 29) = w1) := ⟨_, rfl⟩
  obtain ⟨g, Hg⟩ : ∃ g, Hid (w.heap.size = g) := ⟨_, rfl⟩
  have B1 : Hid (Below w.heap.size w w1) := by rw [← Hw1.out]; exact alloc1 w _
  have k1 : Hid (w1.heap[g]? = some (.cells A 29 (0, 0))) := by rw [← Hw1.out, ← Hg.out]; exact heap_alloc_new w _
  have A1 : Hid (Cms w1 lo a n X) := hA.out.below B1.out
  have c1 : w1.cell? ⟨g, 1, none⟩ = some (.int .i64 x.cm.i0) := cell_arr k1.out (by rw [hX.out]; rfl)
  have c2 : w1.cell? ⟨g, 2, none⟩ = some (.int .i64 x.cm.i1) := cell_arr k1.out (by rw [hX.out]; rfl)
  have c3 : w1.cell? ⟨g, 3, none⟩ = some (.int .i64 x.cm.i2) := cell_arr k1.out (by rw [hX.out]; rfl)
  go_enter Tryz.func11, Tryz.ntmps11
  go_upto_region 1 with (fail)
  rw [Hw1.out, Hg.out]
  clear Hw1
  go_upto_region 6 with (go_at_call 35; refine (find_no A1 hp).mono ?_; rintro e w2 ⟨rfl, H2⟩)
  have B2 : Hid (Below w.heap.size w w2) := B1.out.trans (H2.out.mono B1.out.size)
  have k2 : Hid (w2.heap[g]? = some (.cells A 29 (0, 0))) := (H2.out.block g (Array.getElem?_eq_some_iff.1 k1.out).1).trans k1.out
  obtain ⟨g3, Hg3⟩ : ∃ g, Hid (w2.heap.size = g) := ⟨_, rfl⟩
  obtain ⟨w3, Hw3⟩ : ∃ W, Hid (w2.alloc (.cells A 29) = W) := ⟨_, rfl⟩
  have b3 : Hid (Below w2.heap.size w2 w3) := by rw [← Hw3.out]; exact alloc1 w2 _
  have k3 : Hid (w3.heap[g3]? = some (.cells (encX x).toArray 29 (0, 0))) := by rw [← Hw3.out, ← Hg3.out, ← hX.out]; exact heap_alloc_new w2 _
  have B3 : Hid (Below w.heap.size w w3) := B2.out.trans (b3.out.mono B2.out.size)
  have A3 : Hid (Cms w3 lo a n X) := hA.out.below B3.out
  have M3 : Hid (Cms w3 0 (some ⟨g3, 0, none⟩) 1 [x]) := cms_one k3.out (Nat.zero_le _) ((hP.out.below B3.out).mono (Nat.zero_le _)) hz.out hT.out
  have FD : Hid (Array.foldl (fun cs (x : Value × Nat) => cs.setIfInBounds x.snd x.fst) #[.int .i64 0, .int .i64 0, .int .i64 0, .int .i64 0, .string ⟨#[]⟩, .string ⟨#[]⟩, .int .i64 0, .int .i64 0, .int .i64 0, .int .i64 0, .int .i64 0, .int .i64 0, .int .i64 0, .string ⟨#[]⟩, .int .i64 0, .slice none 0 0, .int .i64 0, .int .i64 0] A.zipIdx 0 18 = A) := fold18 hX.out
  go_wp2_with (first
    | (refine wpList_load_row (by rfl) 29 (.tmp 3) (by rfl) g (by rfl) 29 A (0, 0) _ k2.out Tryz.underlying29 rfl (info29 a18) ?_)
    | (go_at_call 36; rw [FD.out, Hw3.out, Hg3.out]; refine (copied_n A3 M3 (by omega)).mono ?_; rintro e w4 ⟨a', c', rfl, H4⟩))
  refine bodyPost_ret (results_tmp3 rfl _ _ _) rfl ?_
  refine ⟨a', c', rfl, ?_⟩
  obtain ⟨Y, h1, h2, h3⟩ := H4.out
  exact ⟨Y, by rw [h1]; rfl, h2.mono B3.out.size, B3.out.trans (h3.mono B3.out.size)⟩
set_option maxHeartbeats 2000000 in
theorem put_full {M : Nat} {E : Nat → Addr} (hE : Hid (Sent w M E)) (hM : 2 ≤ M) (hA : Hid (Cms w lo a n X)) (hX : Hid (A = (encX x).toArray)) (hp : Hid (plc (led X) x.cm.i0 x.cm.i1 x.cm.i2 = n)) (hn : 4096 ≤ n) :
    Calls Tryz.prog 11 #[.slice a n c, .agg A] w fun e w' => e = .returned (.tuple #[.slice none 0 0, .int .i64 0, er (E 1)]) ∧ Hid (Below w.heap.size w w') := by
  have hsz := hA.out.sz
  have i1 : (4096 : Int) ≤ (n : Int) := by omega
  have a18 : A.size = 18 := encX_sz hX.out
  obtain ⟨w1, Hw1⟩ : ∃ w1, Hid (w.alloc (.cells A 29) = w1) := ⟨_, rfl⟩
  obtain ⟨g, Hg⟩ : ∃ g, Hid (w.heap.size = g) := ⟨_, rfl⟩
  have B1 : Hid (Below w.heap.size w w1) := by rw [← Hw1.out]; exact alloc1 w _
  have k1 : Hid (w1.heap[g]? = some (.cells A 29 (0, 0))) := by rw [← Hw1.out, ← Hg.out]; exact heap_alloc_new w _
  have A1 : Hid (Cms w1 lo a n X) := hA.out.below B1.out
  have c1 : w1.cell? ⟨g, 1, none⟩ = some (.int .i64 x.cm.i0) := cell_arr k1.out (by rw [hX.out]; rfl)
  have c2 : w1.cell? ⟨g, 2, none⟩ = some (.int .i64 x.cm.i1) := cell_arr k1.out (by rw [hX.out]; rfl)
  have c3 : w1.cell? ⟨g, 3, none⟩ = some (.int .i64 x.cm.i2) := cell_arr k1.out (by rw [hX.out]; rfl)
  go_enter Tryz.func11, Tryz.ntmps11
  go_upto_region 1 with (fail)
  rw [Hw1.out, Hg.out]
  clear Hw1
  go_upto_region 5 with (go_at_call 35; refine (find_no A1 hp).mono ?_; rintro e w2 ⟨rfl, H2⟩)
  have B2 : Hid (Below w.heap.size w w2) := B1.out.trans (H2.out.mono B1.out.size)
  have q0 : ∀ j, (w2.drewN j).cell? ⟨1, 0, none⟩ = some (er (E 1)) := fun j => (hE.out.below B2.out).c 1 (by omega)
  unfold er at q0
  go_quiet (fail)
  go_wp2
  refine bodyPost_ret (results_tmp3 rfl _ _ _) rfl ⟨rfl, below_drewN B2.out _⟩
theorem place_there {i j k : Int} {p : Nat} (hA : Hid (Cms w lo a n X)) (hp : Hid (plc (led X) i j k = p)) (hn : p < n) :
    Calls Tryz.prog 15 #[.slice a n c, .agg #[.int .i64 i, .int .i64 j, .int .i64 k]] w fun e w' => e = .returned (.tuple #[.int .i64 ((p : Int) + 1), .nilIface]) ∧ Hid (Below w.heap.size w w') := by
  have hsz := hA.out.sz
  have i1 : (p : Int) < 764877654082 := by omega
  obtain ⟨w1, Hw1⟩ : ∃ w1, Hid (w.alloc (.cells #[.int .i64 i, .int .i64 j, .int .i64 k] 24) = w1) := ⟨_, rfl⟩
  have B1 : Hid (Below w.heap.size w w1) := by rw [← Hw1.out]; exact alloc1 w _
  have A1 : Hid (Cms w1 lo a n X) := hA.out.below B1.out
  go_enter Tryz.func15, Tryz.ntmps15
  go_wp2_with (go_at_call 35; rw [Hw1.out]; refine (find_yes A1 hp hn).mono ?_; rintro e w2 ⟨rfl, H2⟩)
  go_ret2
  exact ⟨rfl, B1.out.trans (H2.out.mono B1.out.size)⟩
theorem place_gone {M : Nat} {E : Nat → Addr} {i j k : Int} (hE : Hid (Sent w M E)) (hM : 1 ≤ M) (hA : Hid (Cms w lo a n X)) (hp : Hid (plc (led X) i j k = n)) :
    Calls Tryz.prog 15 #[.slice a n c, .agg #[.int .i64 i, .int .i64 j, .int .i64 k]] w fun e w' => e = .returned (.tuple #[.int .i64 0, er (E 0)]) ∧ Hid (Below w.heap.size w w') := by
  have hsz := hA.out.sz
  obtain ⟨w1, Hw1⟩ : ∃ w1, Hid (w.alloc (.cells #[.int .i64 i, .int .i64 j, .int .i64 k] 24) = w1) := ⟨_, rfl⟩
  have B1 : Hid (Below w.heap.size w w1) := by rw [← Hw1.out]; exact alloc1 w _
  have A1 : Hid (Cms w1 lo a n X) := hA.out.below B1.out
  go_enter Tryz.func15, Tryz.ntmps15
  go_upto_region 3 with (go_at_call 35; rw [Hw1.out]; refine (find_no A1 hp).mono ?_; rintro e w2 ⟨rfl, H2⟩)
  have B2 : Hid (Below w.heap.size w w2) := B1.out.trans (H2.out.mono B1.out.size)
  have q0 : ∀ j, (w2.drewN j).cell? ⟨0, 0, none⟩ = some (er (E 0)) := fun j => (hE.out.below B2.out).c 0 (by omega)
  unfold er at q0
  go_quiet (fail)
  go_wp2
  refine bodyPost_ret (v := .tuple #[.int .i64 0, .iface 216 (.pointer (some (E 0)))]) (by simp [results, Tryz.results15, go_sem]) rfl ⟨rfl, below_drewN B2.out _⟩
end
/- the document's place: 0 if it is not there -/
def plr (l : List Cm) (i j k : Int) : Int := if plc l i j k < l.length then (plc l i j k : Int) + 1 else 0
set_option maxHeartbeats 4000000 in
theorem refplace_n {w : World} {lo : Nat} {a : Option Addr} {n c : Nat} {X : List Cx} {i j k : Int} (hA : Hid (Cms w lo a n X)) :
    Calls Tryz.prog 16 #[.slice a n c, .agg #[.int .i64 i, .int .i64 j, .int .i64 k]] w fun e w' => e = .returned (.int .i64 (plr (led X) i j k)) ∧ Hid (Below w.heap.size w w') := by
  have hsz := hA.out.sz
  have LX : Hid (n = X.length) := hA.out.len
  obtain ⟨w1, Hw1⟩ : ∃ w1, Hid (w.alloc (.cells #[.int .i64 i, .int .i64 j, .int .i64 k] 24) = w1) := ⟨_, rfl⟩
  obtain ⟨g, Hg⟩ : ∃ g, Hid (w.heap.size = g) := ⟨_, rfl⟩
  have B1 : Hid (Below w.heap.size w w1) := by rw [← Hw1.out]; exact alloc1 w _
  have G1 : Hid (w1.heap[g]? = some (.cells #[.int .i64 i, .int .i64 j, .int .i64 k] 24 (0, 0))) := by rw [← Hw1.out, ← Hg.out]; exact heap_alloc_new w _
  have hg : Hid (g < w1.heap.size) := (Array.getElem?_eq_some_iff.1 G1.out).1
  go_enter Tryz.func16, Tryz.ntmps16
  go_upto_region 1 with (fail)
  rw [Hw1.out, Hg.out]
  clear Hw1 Hg
  go_wp2
  go_loopw [9] (fun ti wr => ∃ t : Nat, t ≤ n ∧ ti = .int .i64 t ∧ Hid (∀ s y, s < t → (led X)[s]? = some y → hasI i j k y = false) ∧ Hid (Below w1.heap.size w1 wr)) (fun ti _ => n - (intOf ti).toNat)
  case atStart => exact ⟨0, by omega, rfl, fun s y hs => by omega, Below.refl _ _⟩
  case round =>
    obtain ⟨t, ht, rfl, HK, HB⟩ := hrel
    have BW : Hid (Below w.heap.size w wr) := B1.out.trans (HB.out.mono B1.out.size)
    by_cases hlt : t < n
    · have i3 : (t : Int) < (n : Int) := by omega
      have kx : t < X.length := by rw [← LX.out]; exact hlt
      obtain ⟨b1, o1, rfl, e1⟩ := (hA.out.below BW.out).at_ kx
      obtain ⟨x, Hx⟩ : ∃ x, Hid (X[t] = x) := ⟨X[t], (rfl : X[t] = X[t])⟩
      rw [Hx.out] at e1
      have EX : Hid ((led X)[t]? = some x.cm) := by show _ = _; rw [← Hx.out]; simp [led, kx]
      obtain ⟨A, HA⟩ : ∃ A, Hid (A = (encX x).toArray) := ⟨_, rfl⟩
      have a18 : A.size = 18 := encX_sz HA.out
      have AA : Hid (A.all (·.oneCell') = true) := encX_all HA.out
      have E1 : Hid (wr.rangeAt b1 (o1 + t * 18) (encX x)) := e1
      clear e1
      obtain ⟨w2, Hw2, K2⟩ := box_new wr A
      obtain ⟨g1, Hg1⟩ : ∃ g, Hid (wr.heap.size = g) := ⟨_, rfl⟩
      go_upto_region 4 with first
        | (refine wpList_ldA (by rfl) (.tmp 12) (by rfl) b1 (o1 + t * 18) (by rfl) HA.out E1.out ?_)
        | (refine wpList_store_row (by rfl) 29 (.tmp 6) (.tmp 13) (by rfl) wr.heap.size A (by rfl) (by rfl) 29 _ (heap_alloc_new wr _) (info29 a18) a18.symm AA.out ?_)
      rw [Hw2.out, Hg1.out]
      have k1 : Hid (w2.heap[g1]? = some (.cells A 29 (0, 0))) := by rw [← Hg1.out]; exact K2.out.1
      have B2 : Hid (Below wr.heap.size wr w2) := K2.out.2.1
      have G2 : Hid (w2.heap[g]? = some (.cells #[.int .i64 i, .int .i64 j, .int .i64 k] 24 (0, 0))) := (B2.out.block g (Nat.lt_of_lt_of_le hg.out HB.out.size)).trans ((HB.out.block g hg.out).trans G1.out)
      clear K2 Hw2 Hg1 E1
      have c1 : w2.cell? ⟨g1, 1, none⟩ = some (.int .i64 x.cm.i0) := cell_arr k1.out (by rw [HA.out]; rfl)
      have c2 : w2.cell? ⟨g1, 2, none⟩ = some (.int .i64 x.cm.i1) := cell_arr k1.out (by rw [HA.out]; rfl)
      have c3 : w2.cell? ⟨g1, 3, none⟩ = some (.int .i64 x.cm.i2) := cell_arr k1.out (by rw [HA.out]; rfl)
      have d1 : w2.cell? ⟨g, 0, none⟩ = some (.int .i64 i) := cell_arr G2.out rfl
      have d2 : w2.cell? ⟨g, 1, none⟩ = some (.int .i64 j) := cell_arr G2.out rfl
      have d3 : w2.cell? ⟨g, 2, none⟩ = some (.int .i64 k) := cell_arr G2.out rfl
      have EQ : ∀ w, (Op.equalIn 10000 24 (.agg #[.int .i64 x.cm.i0, .int .i64 x.cm.i1, .int .i64 x.cm.i2]) (.agg #[.int .i64 i, .int .i64 j, .int .i64 k])).run Tryz.prog w = .ok (hasI i j k x.cm) w := fun w => eqId _ _ _ i j k 9998 w
      by_cases hh : hasI i j k x.cm = true
      · have HF : Hid (plr (led X) i j k = (t : Int) + 1) := by
          have h1 := plc_at EX.out hh HK.out
          show plr (led X) i j k = _
          unfold plr
          rw [h1, if_pos (by rw [led_len]; exact kx)]
        rw [hh] at EQ
        clear hh
        go_wp2
        go_ret
        exact ⟨by rw [HF.out]; rfl, BW.out.trans (B2.out.mono BW.out.size)⟩
      · have Hr : hasI i j k x.cm = false := by simpa using hh
        have NX : Hid (∀ s y, s < t + 1 → (led X)[s]? = some y → hasI i j k y = false) := fun s y hs hy => by
          by_cases hst : s = t
          · subst hst
            rw [EX.out] at hy
            cases hy
            exact Hr
          · exact HK.out s y (by omega) hy
        rw [Hr] at EQ
        clear hh Hr
        go_wp2
        go_roundw
        case rel => exact ⟨t + 1, by omega, by go_num, NX.out, HB.out.trans (B2.out.mono HB.out.size)⟩
        case measure => simp [intOf]; omega
    · have ein : t = n := by omega
      subst ein
      have HF : Hid (plr (led X) i j k = 0) := by
        have h1 : plc (led X) i j k = (led X).length := plc_none (fun s y hy => HK.out s y (by have h2 := (List.getElem?_eq_some_iff.1 hy).1; rw [led_len] at h2; have := LX.out; omega) hy)
        show plr (led X) i j k = _
        unfold plr
        rw [h1, if_neg (Nat.lt_irrefl _)]
      go_wp2
      go_ret
      exact ⟨by rw [HF.out]; rfl, BW.out⟩
/- the greatest number of a node's boot -/
def nst (i j : Int) (b : Int) (x : Cm) : Int := if x.i0 = i ∧ x.i1 = j then max b x.i2 else b
def nwst (l : List Cm) (i j : Int) : Int := l.foldl (nst i j) (-1)
theorem nwst_snoc {X : List Cx} {t : Nat} {x : Cx} (h : X[t]? = some x) (i j : Int) : nwst (led (X.take (t + 1))) i j = nst i j (nwst (led (X.take t)) i j) x.cm := by
  rw [led_snoc h]
  unfold nwst
  rw [List.foldl_append]
  rfl
set_option maxHeartbeats 4000000 in
theorem newest_n {w : World} {lo : Nat} {a : Option Addr} {n c : Nat} {X : List Cx} {i j : Int} (hA : Hid (Cms w lo a n X)) :
    Calls Tryz.prog 17 #[.slice a n c, .int .i64 i, .int .i64 j] w fun e w' => e = .returned (.int .i64 (nwst (led X) i j)) ∧ Hid (Below w.heap.size w w') := by
  have hsz := hA.out.sz
  have LX : Hid (n = X.length) := hA.out.len
  go_enter Tryz.func17, Tryz.ntmps17
  go_wp2
  go_loopw [7, 12] (fun tb ti wr => ∃ (t : Nat) (b : Int), t ≤ n ∧ ti = .int .i64 t ∧ tb = .int .i64 b ∧ Hid (nwst (led (X.take t)) i j = b) ∧ Hid (Below w.heap.size w wr)) (fun _ ti _ => n - (intOf ti).toNat)
  case atStart => exact ⟨0, -1, by omega, rfl, rfl, rfl, Below.refl _ _⟩
  case round =>
    obtain ⟨t, b, ht, rfl, rfl, HK, HB⟩ := hrel
    by_cases hlt : t < n
    · have i3 : (t : Int) < (n : Int) := by omega
      have kx : t < X.length := by rw [← LX.out]; exact hlt
      obtain ⟨b1, o1, rfl, e1⟩ := (hA.out.below HB.out).at_ kx
      obtain ⟨x, Hx⟩ : ∃ x, Hid (X[t] = x) := ⟨X[t], (rfl : X[t] = X[t])⟩
      rw [Hx.out] at e1
      have EX : Hid (X[t]? = some x) := by show _ = _; rw [← Hx.out]; exact List.getElem?_eq_getElem kx
      obtain ⟨A, HA⟩ : ∃ A, Hid (A = (encX x).toArray) := ⟨_, rfl⟩
      have a18 : A.size = 18 := encX_sz HA.out
      have AA : Hid (A.all (·.oneCell') = true) := encX_all HA.out
      have E1 : Hid (wr.rangeAt b1 (o1 + t * 18) (encX x)) := e1
      clear e1
      obtain ⟨w2, Hw2, K2⟩ := box_new wr A
      obtain ⟨g1, Hg1⟩ : ∃ g, Hid (wr.heap.size = g) := ⟨_, rfl⟩
      go_upto_region 5 with first
        | (refine wpList_ldA (by rfl) (.tmp 14) (by rfl) b1 (o1 + t * 18) (by rfl) HA.out E1.out ?_)
        | (refine wpList_store_row (by rfl) 29 (.tmp 9) (.tmp 15) (by rfl) wr.heap.size A (by rfl) (by rfl) 29 _ (heap_alloc_new wr _) (info29 a18) a18.symm AA.out ?_)
      rw [Hw2.out, Hg1.out]
      have k1 : Hid (w2.heap[g1]? = some (.cells A 29 (0, 0))) := by rw [← Hg1.out]; exact K2.out.1
      have B2 : Hid (Below wr.heap.size wr w2) := K2.out.2.1
      clear K2 Hw2 Hg1 E1
      obtain ⟨x0, Hx0⟩ : ∃ v, Hid (x.cm.i0 = v) := ⟨_, rfl⟩
      obtain ⟨x1, Hx1⟩ : ∃ v, Hid (x.cm.i1 = v) := ⟨_, rfl⟩
      obtain ⟨x2, Hx2⟩ : ∃ v, Hid (x.cm.i2 = v) := ⟨_, rfl⟩
      have c1 : w2.cell? ⟨g1, 1, none⟩ = some (.int .i64 x0) := cell_arr k1.out (by rw [HA.out, ← Hx0.out]; rfl)
      have c2 : w2.cell? ⟨g1, 2, none⟩ = some (.int .i64 x1) := cell_arr k1.out (by rw [HA.out, ← Hx1.out]; rfl)
      have c3 : w2.cell? ⟨g1, 3, none⟩ = some (.int .i64 x2) := cell_arr k1.out (by rw [HA.out, ← Hx2.out]; rfl)
      by_cases h0 : x0 = i
      · by_cases h1 : x1 = j
        · by_cases h2 : b < x2
          · have NX : Hid (nwst (led (X.take (t + 1))) i j = x2) := by
              show _ = _
              rw [nwst_snoc EX.out, HK.out]
              unfold nst
              rw [Hx0.out, Hx1.out, Hx2.out, if_pos ⟨h0, h1⟩]
              omega
            go_wp2
            go_roundw
            case rel => exact ⟨t + 1, x2, by omega, by go_num, by first | rfl | (simp; omega), NX.out, HB.out.trans (B2.out.mono HB.out.size)⟩
            case measure => simp [intOf]; omega
          · have NX : Hid (nwst (led (X.take (t + 1))) i j = b) := by
              show _ = _
              rw [nwst_snoc EX.out, HK.out]
              unfold nst
              rw [Hx0.out, Hx1.out, Hx2.out, if_pos ⟨h0, h1⟩]
              omega
            have h3 : x2 ≤ b := by omega
            go_wp2
            go_roundw
            case rel => exact ⟨t + 1, b, by omega, by go_num, by first | rfl | (simp; omega), NX.out, HB.out.trans (B2.out.mono HB.out.size)⟩
            case measure => simp [intOf]; omega
        · have NX : Hid (nwst (led (X.take (t + 1))) i j = b) := by
            show _ = _
            rw [nwst_snoc EX.out, HK.out]
            unfold nst
            rw [Hx0.out, Hx1.out, if_neg (fun h => h1 h.2)]
          go_wp2
          go_roundw
          case rel => exact ⟨t + 1, b, by omega, by go_num, rfl, NX.out, HB.out.trans (B2.out.mono HB.out.size)⟩
          case measure => simp [intOf]; omega
      · have NX : Hid (nwst (led (X.take (t + 1))) i j = b) := by
          show _ = _
          rw [nwst_snoc EX.out, HK.out]
          unfold nst
          rw [Hx0.out, if_neg (fun h => h0 h.1)]
        go_wp2
        go_roundw
        case rel => exact ⟨t + 1, b, by omega, by go_num, rfl, NX.out, HB.out.trans (B2.out.mono HB.out.size)⟩
        case measure => simp [intOf]; omega
    · have ein : t = n := by omega
      subst ein
      have HF : Hid (nwst (led X) i j = b) := by
        show _ = _
        rw [← HK.out, List.take_of_length_le (by have := LX.out; omega)]
      go_wp2
      go_ret
      exact ⟨by rw [HF.out]; rfl, HB.out⟩
end Go.Proofs.YtfabnnbljkkihaaGreatDoor
