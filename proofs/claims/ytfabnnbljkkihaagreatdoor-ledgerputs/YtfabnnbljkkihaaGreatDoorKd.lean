/- copyAll of pieces (f86). -/
import Derived.Test.YtfabnnbljkkihaaGreatDoorKc
namespace Go.Proofs.YtfabnnbljkkihaaGreatDoor
open Go.ChangeShapes Go.WideShapes Go.ChangeAt Go.RowKit
set_option maxRecDepth 20000
set_option linter.unusedVariables false
set_option linter.unusedSimpArgs false
theorem inf26 : (Tryz.prog.info? 26).map (fun i => (i.zero, i.size, i.bytes)) = some (some (.agg #[.int .i64 0, .int .i64 0, .int .i64 0, .int .i64 0, .string ⟨#[]⟩]), 5, 48) := by kernel_rfl
theorem inz26 : (Tryz.prog.info? 26).map (·.size) = some 5 := by kernel_rfl
theorem fold26 {A : Array Value} {x : Pcd} (h : A = (EPc.e x).toArray) : Array.foldl (fun cs (x : Value × Nat) => cs.setIfInBounds x.snd x.fst) #[.int .i64 0, .int .i64 0, .int .i64 0, .int .i64 0, .string ⟨#[]⟩] A.zipIdx 0 5 = A := by
  subst h
  kernel_rfl
set_option maxHeartbeats 8000000 in
theorem copyPcs {w : World} {lo hi K : Nat} {a : Option Addr} {n c : Nat} {X : List Pcd} (hA : Hid (Rw w lo hi 26 EPc a n c X)) (hn : n ≤ 1048576)
    (hC : ∀ x ∈ X, ∀ (W : World) (A : Array Value), Hid (A = (EPc.e x).toArray) → Hid (Below w.heap.size w W) → Calls Tryz.prog 80 #[.agg A] W fun e w' => ∃ B, e = .returned (.agg B) ∧ Hid (∃ y, B = (EPc.e y).toArray ∧ id y = id x ∧ (fun _ _ _ p => PcO p) w' W.heap.size w'.heap.size y ∧ Below W.heap.size W w')) :
    Calls Tryz.prog 86 #[.slice a n c, .func (.func 80) #[] #[]] w fun e w' => ∃ a', e = .returned (.slice a' n n) ∧ Hid (∃ Y, Y.map id = X.map id ∧ Rw w' w.heap.size w'.heap.size 26 EPc a' n n Y ∧ Seg ((fun _ _ _ p => PcO p) w') w.heap.size w'.heap.size Y ∧ Below w.heap.size w w') := by
  have LX : Hid (n = X.length) := hA.out.len
  have HC : Hid _ := hC
  clear hC
  obtain ⟨w1, mk0, cp0⟩ := cp_start (O := (fun _ _ _ p => PcO p)) (d := id) (E := EPc) (w := w) (n := n) Tryz.underlying69 inf26 (by decide) (by omega) hn X
  have mk := mk0
  have CP0 : Hid (Cp (fun _ _ _ p => PcO p) id 26 EPc w w1 n 0 X) := cp0
  clear mk0 cp0
  go_enter Tryz.func86, Tryz.ntmps86
  go_wp2
  clear mk
  obtain ⟨g0, Hg0⟩ : ∃ g, Hid (w.heap.size = g) := ⟨_, rfl⟩
  rw [Hg0.out]
  go_loopw [5, 13] (fun t5 t13 wr => ∃ (i : Nat), i ≤ n ∧ t13 = .int .i64 i ∧ t5 = .slice (some ⟨g0, 0, none⟩) i n ∧ Hid (Cp (fun _ _ _ p => PcO p) id 26 EPc w wr n i X)) (fun _ t13 _ => n - (intOf t13).toNat)
  case atStart => exact ⟨0, by omega, rfl, rfl, CP0⟩
  case round =>
    clear CP0
    obtain ⟨i, hi, rfl, rfl, HP⟩ := hrel
    by_cases hlt : i < n
    · have i3 : (i : Int) < (n : Int) := by omega
      have kx : i < X.length := by rw [← LX.out]; exact hlt
      have HB : Hid (Below w.heap.size w wr) := HP.out.choose_spec.2.2.2.1
      obtain ⟨b1, rfl, _, _, e1⟩ := (hA.out.below HB.out).at_ kx
      obtain ⟨x, Hx⟩ : ∃ x, Hid (X[i] = x) := ⟨X[i], (rfl : X[i] = X[i])⟩
      rw [Hx.out] at e1
      have EX : Hid (X[i]? = some x) := by show _ = _; rw [← Hx.out]; exact List.getElem?_eq_getElem kx
      have MX : x ∈ X := List.mem_of_getElem? EX.out
      obtain ⟨A, HA⟩ : ∃ A, Hid (A = (EPc.e x).toArray) := ⟨_, rfl⟩
      have az : A.size = 5 := arr_sz HA.out
      have ai : (Tryz.prog.info? 26).map (·.size) = some A.size := by rw [az]; exact inz26
      have AA : Hid (A.all (·.oneCell') = true) := arr_all HA.out
      have E1 : Hid (wr.rangeAt b1 (i * 5) (EPc.e x)) := e1
      clear e1
      obtain ⟨w2, Hw2, K2⟩ := box_any wr 26 #[.int .i64 0, .int .i64 0, .int .i64 0, .int .i64 0, .string ⟨#[]⟩] A
      obtain ⟨g1, Hg1⟩ : ∃ g, Hid (wr.heap.size = g) := ⟨_, rfl⟩
      have LA : Hid (some A.size = some ((EPc.e x).toArray.size)) := by show _ = _; rw [HA.out]
      go_upto_region 5 with first
        | (refine wpList_load_mid (by rfl) 26 (.tmp 15) (by rfl) b1 (i * 5) (by rfl) (EPc.e x) _ E1.out Tryz.underlying26 rfl (by rw [EPc.len]; exact inz26) ?_; rw [← HA.out])
        | (refine wpList_store_row (by rfl) 26 (.tmp 7) (.tmp 16) (by rfl) wr.heap.size A (by rfl) (by rfl) 26 _ (heap_alloc_new wr _) ai (by rw [az]; rfl) AA.out ?_)
      rw [Hw2.out, Hg1.out]
      have k1 : Hid (w2.heap[g1]? = some (.cells A 26 (0, 0))) := by rw [← Hg1.out]; exact K2.out.1
      have B2 : Hid (Below wr.heap.size wr w2) := K2.out.2.1
      have BW : Hid (Below w.heap.size w w2) := HB.out.trans (B2.out.mono HB.out.size)
      clear K2 Hw2 Hg1 E1 LA
      go_wp2_with (first
        | (refine wpList_load_row (by rfl) 26 (.tmp 7) (by rfl) g1 (by rfl) 26 A (0, 0) _ k1.out Tryz.underlying26 rfl ai ?_)
        | (go_at_call 80; refine (HC.out x MX w2 A HA BW).mono ?_; rintro e w3 ⟨B, rfl, H3⟩
           obtain ⟨y, hy1, hy2, hy3, hy4⟩ := H3.out
           have HBY : Hid (B = (EPc.e y).toArray) := hy1
           have bz : B.size = 5 := arr_sz hy1
           obtain ⟨w6, r1, r2⟩ := cp_step pcO_stays HP.out EX.out hlt Tryz.underlying69 inz26 B2.out hy4 hy2 hy3
           obtain ⟨g4, Hg4⟩ : ∃ g, Hid (w3.heap.size = g) := ⟨_, rfl⟩
           obtain ⟨w4, Hw4⟩ : ∃ W, Hid (w3.alloc (.cells B 26) = W) := ⟨_, rfl⟩
           rw [← hy1, Hw4.out, Hg4.out, Hg0.out] at r1
           have AR : Hid ((Builtin.append_ #[69, 69] 69 #[.slice (some ⟨g0, 0, none⟩) i n, .slice (some ⟨g4, 0, none⟩) 1 1]).run Tryz.prog w4 = .ok (.slice (some ⟨g0, 0, none⟩) (i + 1) n) w6) := r1
           have FIN : Hid (Cp (fun _ _ _ p => PcO p) id 26 EPc w w6 n (i + 1) X) := r2
           have FD : Hid (Array.foldl (fun cs (x : Value × Nat) => cs.setIfInBounds x.snd x.fst) #[.int .i64 0, .int .i64 0, .int .i64 0, .int .i64 0, .string ⟨#[]⟩] B.zipIdx 0 5 = B) := fold26 HBY.out
           clear hy1 hy2 hy3 hy4 H3 r1 r2)
        | (at_builtin; rw [FD.out, Hw4.out, Hg4.out]; refine wpList_appt (by rfl) (.tmp 17) (.tmp 21) (by rfl) (by rfl) (by rfl) (by rfl) AR ?_))
      go_roundw
      case rel => exact ⟨i + 1, by omega, by go_num, rfl, FIN⟩
      case measure => simp [intOf]; omega
    · have ein : i = n := by omega
      subst ein
      have FIN : Hid _ := cp_end HP.out LX.out
      clear HP
      go_wp2
      go_ret
      refine ⟨some ⟨g0, 0, none⟩, rfl, ?_⟩
      obtain ⟨Y, h1, h2, h3, h4⟩ := FIN.out
      exact ⟨Y, h1, by rw [← Hg0.out]; exact h2, h3, h4⟩
end Go.Proofs.YtfabnnbljkkihaaGreatDoor
