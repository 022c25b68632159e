/- copyPart (f90), copyAll of parts (f89). -/
import Derived.Test.YtfabnnbljkkihaaGreatDoorKd
import Derived.Test.YtfabnnbljkkihaaGreatDoorLh
namespace Go.Proofs.YtfabnnbljkkihaaGreatDoor
open Go.ChangeShapes Go.WideShapes Go.ChangeAt Go.RowKit
set_option maxRecDepth 20000
set_option linter.unusedVariables false
set_option linter.unusedSimpArgs false
theorem inf108 : (Tryz.prog.info? 108).map (fun i => (i.zero, i.size, i.bytes)) = some (some (.agg #[.int .i64 0, .int .i64 0, .int .i64 0, .int .i64 0, .int .i64 0, .string ⟨#[]⟩]), 6, 56) := by kernel_rfl
theorem inz108 : (Tryz.prog.info? 108).map (·.size) = some 6 := by kernel_rfl
theorem fold108 {A : Array Value} {x : Ptd} (h : A = (EPt.e x).toArray) : Array.foldl (fun cs (x : Value × Nat) => cs.setIfInBounds x.snd x.fst) #[.int .i64 0, .int .i64 0, .int .i64 0, .int .i64 0, .int .i64 0, .string ⟨#[]⟩] A.zipIdx 0 6 = A := by
  subst h
  kernel_rfl
set_option maxHeartbeats 8000000 in
theorem copyPts {w : World} {lo hi K : Nat} {a : Option Addr} {n c : Nat} {X : List Ptd} (hA : Hid (Rw w lo hi 108 EPt a n c X)) (hn : n ≤ 1048576)
    (hC : ∀ x ∈ X, ∀ (W : World) (A : Array Value), Hid (A = (EPt.e x).toArray) → Hid (Below w.heap.size w W) → Calls Tryz.prog 90 #[.agg A] W fun e w' => ∃ B, e = .returned (.agg B) ∧ Hid (∃ y, B = (EPt.e y).toArray ∧ id y = id x ∧ (fun _ _ _ (p : Ptd) => PcO p.pc) w' W.heap.size w'.heap.size y ∧ Below W.heap.size W w')) :
    Calls Tryz.prog 89 #[.slice a n c, .func (.func 90) #[] #[]] w fun e w' => ∃ a', e = .returned (.slice a' n n) ∧ Hid (∃ Y, Y.map id = X.map id ∧ Rw w' w.heap.size w'.heap.size 108 EPt a' n n Y ∧ Seg ((fun _ _ _ (p : Ptd) => PcO p.pc) w') w.heap.size w'.heap.size Y ∧ Below w.heap.size w w') := by
  have LX : Hid (n = X.length) := hA.out.len
  have HC : Hid _ := hC
  clear hC
  obtain ⟨w1, mk0, cp0⟩ := cp_start (O := (fun _ _ _ (p : Ptd) => PcO p.pc)) (d := id) (E := EPt) (w := w) (n := n) Tryz.underlying75 inf108 (by decide) (by omega) hn X
  have mk := mk0
  have CP0 : Hid (Cp (fun _ _ _ (p : Ptd) => PcO p.pc) id 108 EPt w w1 n 0 X) := cp0
  clear mk0 cp0
  go_enter Tryz.func89, Tryz.ntmps89
  go_wp2
  clear mk
  obtain ⟨g0, Hg0⟩ : ∃ g, Hid (w.heap.size = g) := ⟨_, rfl⟩
  rw [Hg0.out]
  go_loopw [5, 13] (fun t5 t13 wr => ∃ (i : Nat), i ≤ n ∧ t13 = .int .i64 i ∧ t5 = .slice (some ⟨g0, 0, none⟩) i n ∧ Hid (Cp (fun _ _ _ (p : Ptd) => PcO p.pc) id 108 EPt w wr n i X)) (fun _ t13 _ => n - (intOf t13).toNat)
  case atStart => exact ⟨0, by omega, rfl, rfl, CP0⟩
  case round =>
    clear CP0
    obtain ⟨i, hi, rfl, rfl, HP⟩ := hrel
    by_cases hlt : i < n
    · have i3 : (i : Int) < (n : Int) := by omega
      have kx : i < X.length := by rw [← LX.out]; exact hlt
      have HB : Hid (Below w.heap.size w wr) := HP.out.choose_spec.2.2.2.1
      obtain ⟨b1, rfl, _, _, e1⟩ := (hA.out.below HB.out).at_ kx
      obtain ⟨x, Hx⟩ : ∃ x, Hid (X[i] = x) := ⟨X[i], (rfl : X[i] = X[i])⟩
      rw [Hx.out] at e1
      have EX : Hid (X[i]? = some x) := by show _ = _; rw [← Hx.out]; exact List.getElem?_eq_getElem kx
      have MX : x ∈ X := List.mem_of_getElem? EX.out
      obtain ⟨A, HA⟩ : ∃ A, Hid (A = (EPt.e x).toArray) := ⟨_, rfl⟩
      have az : A.size = 6 := arr_sz HA.out
      have ai : (Tryz.prog.info? 108).map (·.size) = some A.size := by rw [az]; exact inz108
      have AA : Hid (A.all (·.oneCell') = true) := arr_all HA.out
      have E1 : Hid (wr.rangeAt b1 (i * 6) (EPt.e x)) := e1
      clear e1
      obtain ⟨w2, Hw2, K2⟩ := box_any wr 108 #[.int .i64 0, .int .i64 0, .int .i64 0, .int .i64 0, .int .i64 0, .string ⟨#[]⟩] A
      obtain ⟨g1, Hg1⟩ : ∃ g, Hid (wr.heap.size = g) := ⟨_, rfl⟩
      have LA : Hid (some A.size = some ((EPt.e x).toArray.size)) := by show _ = _; rw [HA.out]
      go_upto_region 5 with first
        | (refine wpList_load_mid (by rfl) 108 (.tmp 15) (by rfl) b1 (i * 6) (by rfl) (EPt.e x) _ E1.out Tryz.underlying108 rfl (by rw [EPt.len]; exact inz108) ?_; rw [← HA.out])
        | (refine wpList_store_row (by rfl) 108 (.tmp 7) (.tmp 16) (by rfl) wr.heap.size A (by rfl) (by rfl) 108 _ (heap_alloc_new wr _) ai (by rw [az]; rfl) AA.out ?_)
      rw [Hw2.out, Hg1.out]
      have k1 : Hid (w2.heap[g1]? = some (.cells A 108 (0, 0))) := by rw [← Hg1.out]; exact K2.out.1
      have B2 : Hid (Below wr.heap.size wr w2) := K2.out.2.1
      have BW : Hid (Below w.heap.size w w2) := HB.out.trans (B2.out.mono HB.out.size)
      clear K2 Hw2 Hg1 E1 LA
      go_wp2_with (first
        | (refine wpList_load_row (by rfl) 108 (.tmp 7) (by rfl) g1 (by rfl) 108 A (0, 0) _ k1.out Tryz.underlying108 rfl ai ?_)
        | (go_at_call 90; refine (HC.out x MX w2 A HA BW).mono ?_; rintro e w3 ⟨B, rfl, H3⟩
           obtain ⟨y, hy1, hy2, hy3, hy4⟩ := H3.out
           have HBY : Hid (B = (EPt.e y).toArray) := hy1
           have bz : B.size = 6 := arr_sz hy1
           obtain ⟨w6, r1, r2⟩ := cp_step ptO_stays HP.out EX.out hlt Tryz.underlying75 inz108 B2.out hy4 hy2 hy3
           obtain ⟨g4, Hg4⟩ : ∃ g, Hid (w3.heap.size = g) := ⟨_, rfl⟩
           obtain ⟨w4, Hw4⟩ : ∃ W, Hid (w3.alloc (.cells B 108) = W) := ⟨_, rfl⟩
           rw [← hy1, Hw4.out, Hg4.out, Hg0.out] at r1
           have AR : Hid ((Builtin.append_ #[75, 75] 75 #[.slice (some ⟨g0, 0, none⟩) i n, .slice (some ⟨g4, 0, none⟩) 1 1]).run Tryz.prog w4 = .ok (.slice (some ⟨g0, 0, none⟩) (i + 1) n) w6) := r1
           have FIN : Hid (Cp (fun _ _ _ (p : Ptd) => PcO p.pc) id 108 EPt w w6 n (i + 1) X) := r2
           have FD : Hid (Array.foldl (fun cs (x : Value × Nat) => cs.setIfInBounds x.snd x.fst) #[.int .i64 0, .int .i64 0, .int .i64 0, .int .i64 0, .int .i64 0, .string ⟨#[]⟩] B.zipIdx 0 6 = B) := fold108 HBY.out
           clear hy1 hy2 hy3 hy4 H3 r1 r2)
        | (at_builtin; rw [FD.out, Hw4.out, Hg4.out]; refine wpList_appt (by rfl) (.tmp 17) (.tmp 21) (by rfl) (by rfl) (by rfl) (by rfl) AR ?_))
      go_roundw
      case rel => exact ⟨i + 1, by omega, by go_num, rfl, FIN⟩
      case measure => simp [intOf]; omega
    · have ein : i = n := by omega
      subst ein
      have FIN : Hid _ := cp_end HP.out LX.out
      clear HP
      go_wp2
      go_ret
      refine ⟨some ⟨g0, 0, none⟩, rfl, ?_⟩
      obtain ⟨Y, h1, h2, h3, h4⟩ := FIN.out
      exact ⟨Y, h1, by rw [← Hg0.out]; exact h2, h3, h4⟩
theorem copyPiece_e (p : Pcd) (hp : PcO p) (w : World) (A : Array Value) (hA : Hid (A = (EPc.e p).toArray)) :
    Calls Tryz.prog 80 #[.agg A] w fun e w' => ∃ B, e = .returned (.agg B) ∧ Hid (∃ y, B = (EPc.e y).toArray ∧ id y = id p ∧ (fun _ _ _ p => PcO p) w' w.heap.size w'.heap.size y ∧ Below w.heap.size w w') := by
  rw [hA.out]
  refine (copyPiece_n p.b0 p.b1 p.b2 p.sz p.et w hp.s).mono ?_
  rintro e w' ⟨rfl, H⟩
  exact ⟨_, rfl, p, rfl, rfl, hp, H.out⟩
set_option maxHeartbeats 2000000 in
theorem copyPart_e (p : Ptd) (hp : PcO p.pc) (w : World) (A0 : Array Value) (hA : Hid (A0 = (EPt.e p).toArray)) :
    Calls Tryz.prog 90 #[.agg A0] w fun e w' => ∃ B, e = .returned (.agg B) ∧ Hid (∃ y, B = (EPt.e y).toArray ∧ id y = id p ∧ (fun _ _ _ (p : Ptd) => PcO p.pc) w' w.heap.size w'.heap.size y ∧ Below w.heap.size w w') := by
  rw [show A0 = #[.int .i64 p.no, .int .i64 p.pc.b0, .int .i64 p.pc.b1, .int .i64 p.pc.b2, .int .i64 p.pc.sz, .string p.pc.et] from hA.out]
  obtain ⟨w1, Hw1⟩ : ∃ w1, Hid ((w.alloc (.cells #[.int .i64 p.no, .int .i64 p.pc.b0, .int .i64 p.pc.b1, .int .i64 p.pc.b2, .int .i64 p.pc.sz, .string p.pc.et] 108)).alloc (.cells #[.int .i64 0, .int .i64 0, .int .i64 0, .int .i64 0, .int .i64 0, .string ⟨#[]⟩] 108) = w1) := ⟨_, rfl⟩
  obtain ⟨g, Hg⟩ : ∃ g, Hid (w.heap.size = g) := ⟨_, rfl⟩
  have S1 : Hid (Bz 108 #[.int .i64 0, .int .i64 0, .int .i64 0, .int .i64 0, .int .i64 0, .string ⟨#[]⟩] w w1 g #[.int .i64 p.no, .int .i64 p.pc.b0, .int .i64 p.pc.b1, .int .i64 p.pc.b2, .int .i64 p.pc.sz, .string p.pc.et]) := by rw [← Hw1.out, ← Hg.out]; exact Bz.new _ _ _ _
  have c1 := S1.out.cell (i := 1) rfl
  have c2 := S1.out.cell (i := 2) rfl
  have c3 := S1.out.cell (i := 3) rfl
  have c4 := S1.out.cell (i := 4) rfl
  have c5 := S1.out.cell (i := 5) rfl
  go_enter Tryz.func90, Tryz.ntmps90
  go_upto_region 1 with (fail)
  rw [Hw1.out, Hg.out]
  clear Hw1
  go_upto_region 2 with (go_at_call 80; refine (copyPiece_n _ _ _ _ _ _ hp.s).mono ?_; rintro e w4 ⟨rfl, H4⟩; have S6 := S1.out.below H4.out; have d1 := S6.cell (i := 1) rfl; have d2 := S6.cell (i := 2) rfl; have d3 := S6.cell (i := 3) rfl; have d4 := S6.cell (i := 4) rfl; have d5 := S6.cell (i := 5) rfl; have f1 := S6.frz 1; have f2 := S6.frz 2; have f3 := S6.frz 3; have f4 := S6.frz 4; have f5 := S6.frz 5)
  have S9 : Hid (Bz 108 #[.int .i64 0, .int .i64 0, .int .i64 0, .int .i64 0, .int .i64 0, .string ⟨#[]⟩] w (((((w4.setCell ⟨g, 1, none⟩ (.int .i64 p.pc.b0)).setCell ⟨g, 2, none⟩ (.int .i64 p.pc.b1)).setCell ⟨g, 3, none⟩ (.int .i64 p.pc.b2)).setCell ⟨g, 4, none⟩ (.int .i64 p.pc.sz)).setCell ⟨g, 5, none⟩ (.string p.pc.et)) g #[.int .i64 p.no, .int .i64 p.pc.b0, .int .i64 p.pc.b1, .int .i64 p.pc.b2, .int .i64 p.pc.sz, .string p.pc.et]) := ((((S6.set rfl).set rfl).set rfl).set rfl).set rfl
  obtain ⟨V2, HV2⟩ : ∃ V, Hid ((((((w4.setCell ⟨g, 1, none⟩ (.int .i64 p.pc.b0)).setCell ⟨g, 2, none⟩ (.int .i64 p.pc.b1)).setCell ⟨g, 3, none⟩ (.int .i64 p.pc.b2)).setCell ⟨g, 4, none⟩ (.int .i64 p.pc.sz)).setCell ⟨g, 5, none⟩ (.string p.pc.et)) = V) := ⟨_, rfl⟩
  rw [HV2.out] at S9 ⊢
  clear HV2 c1 c2 c3 c4 c5 d1 d2 d3 d4 d5 f1 f2 f3 f4 f5 S6 H4 S1
  obtain ⟨A, HA⟩ : ∃ A, Hid ((#[.int .i64 p.no, .int .i64 p.pc.b0, .int .i64 p.pc.b1, .int .i64 p.pc.b2, .int .i64 p.pc.sz, .string p.pc.et] : Array Value) = A) := ⟨_, rfl⟩
  have a5 : (Tryz.prog.info? 108).map (·.size) = some A.size := by rw [← HA.out]; exact inz108
  have AA : Hid (A.all (·.oneCell') = true) := (show A.all (·.oneCell') = true by rw [← HA.out]; kernel_rfl)
  have a6 : Hid (A.size = 6) := (show A.size = 6 by rw [← HA.out]; rfl)
  rw [HA.out] at S9
  go_wp2_with (first
    | (refine wpList_load_row (by rfl) 108 (.tmp 1) (by rfl) g (by rfl) 108 A (0, 0) _ S9.out.b Tryz.underlying108 rfl a5 ?_)
    | (refine wpList_store_row (by rfl) 108 (.tmp 2) (.tmp 7) (by rfl) (g + 1) A (by rfl) (by rfl) 108 _ S9.out.z a5 (by rw [a6.out]; rfl) AA.out ?_))
  refine bodyPost_ret (results_cell_row Tryz.results90 _ _ (g + 1) 108 A (0, 0) _ (by rfl) (setRow_heap _ _ _ _ _ _ S9.out.z) Tryz.underlying108 rfl a5) rfl ?_
  exact ⟨A, rfl, p, HA.out.symm, rfl, hp, below_setRow S9.out.f (by have := S9.out.e; omega) _⟩
end Go.Proofs.YtfabnnbljkkihaaGreatDoor
