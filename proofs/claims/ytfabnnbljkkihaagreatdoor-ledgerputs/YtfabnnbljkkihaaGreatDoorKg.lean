/- copyObject (f54), copyAll of objects (f83). -/
import Derived.Test.YtfabnnbljkkihaaGreatDoorKe
namespace Go.Proofs.YtfabnnbljkkihaaGreatDoor
open Go.ChangeShapes Go.WideShapes Go.ChangeAt Go.RowKit
set_option maxRecDepth 20000
set_option linter.unusedVariables false
set_option linter.unusedSimpArgs false
theorem inf71 : (Tryz.prog.info? 71).map (fun i => (i.zero, i.size, i.bytes)) = some (some (.agg #[.string ⟨#[]⟩, .int .i64 0, .string ⟨#[]⟩, .int .i64 0, .slice none 0 0]), 5, 72) := by kernel_rfl
theorem inz71 : (Tryz.prog.info? 71).map (·.size) = some 5 := by kernel_rfl
theorem fold71 {A : Array Value} {x : Obx} (h : A = (EOb.e x).toArray) : Array.foldl (fun cs (x : Value × Nat) => cs.setIfInBounds x.snd x.fst) #[.string ⟨#[]⟩, .int .i64 0, .string ⟨#[]⟩, .int .i64 0, .slice none 0 0] A.zipIdx 0 5 = A := by
  subst h
  kernel_rfl
set_option maxHeartbeats 8000000 in
theorem copyObs {w : World} {lo hi K : Nat} {a : Option Addr} {n c : Nat} {X : List Obx} (hA : Hid (Rw w lo hi 71 EOb a n c X)) (hn : n ≤ 1048576)
    (hC : ∀ x ∈ X, ∀ (W : World) (A : Array Value), Hid (A = (EOb.e x).toArray) → Hid (Below w.heap.size w W) → Calls Tryz.prog 54 #[.agg A] W fun e w' => ∃ B, e = .returned (.agg B) ∧ Hid (∃ y, B = (EOb.e y).toArray ∧ Obx.ob y = Obx.ob x ∧ (ObO K) w' W.heap.size w'.heap.size y ∧ Below W.heap.size W w')) :
    Calls Tryz.prog 83 #[.slice a n c, .func (.func 54) #[] #[]] w fun e w' => ∃ a', e = .returned (.slice a' n n) ∧ Hid (∃ Y, Y.map Obx.ob = X.map Obx.ob ∧ Rw w' w.heap.size w'.heap.size 71 EOb a' n n Y ∧ Seg ((ObO K) w') w.heap.size w'.heap.size Y ∧ Below w.heap.size w w') := by
  have LX : Hid (n = X.length) := hA.out.len
  have HC : Hid _ := hC
  clear hC
  obtain ⟨w1, mk0, cp0⟩ := cp_start (O := (ObO K)) (d := Obx.ob) (E := EOb) (w := w) (n := n) Tryz.underlying62 inf71 (by decide) (by omega) hn X
  have mk := mk0
  have CP0 : Hid (Cp (ObO K) Obx.ob 71 EOb w w1 n 0 X) := cp0
  clear mk0 cp0
  go_enter Tryz.func83, Tryz.ntmps83
  go_wp2
  clear mk
  obtain ⟨g0, Hg0⟩ : ∃ g, Hid (w.heap.size = g) := ⟨_, rfl⟩
  rw [Hg0.out]
  go_loopw [5, 13] (fun t5 t13 wr => ∃ (i : Nat), i ≤ n ∧ t13 = .int .i64 i ∧ t5 = .slice (some ⟨g0, 0, none⟩) i n ∧ Hid (Cp (ObO K) Obx.ob 71 EOb w wr n i X)) (fun _ t13 _ => n - (intOf t13).toNat)
  case atStart => exact ⟨0, by omega, rfl, rfl, CP0⟩
  case round =>
    clear CP0
    obtain ⟨i, hi, rfl, rfl, HP⟩ := hrel
    by_cases hlt : i < n
    · have i3 : (i : Int) < (n : Int) := by omega
      have kx : i < X.length := by rw [← LX.out]; exact hlt
      have HB : Hid (Below w.heap.size w wr) := HP.out.choose_spec.2.2.2.1
      obtain ⟨b1, rfl, _, _, e1⟩ := (hA.out.below HB.out).at_ kx
      obtain ⟨x, Hx⟩ : ∃ x, Hid (X[i] = x) := ⟨X[i], (rfl : X[i] = X[i])⟩
      rw [Hx.out] at e1
      have EX : Hid (X[i]? = some x) := by show _ = _; rw [← Hx.out]; exact List.getElem?_eq_getElem kx
      have MX : x ∈ X := List.mem_of_getElem? EX.out
      obtain ⟨A, HA⟩ : ∃ A, Hid (A = (EOb.e x).toArray) := ⟨_, rfl⟩
      have az : A.size = 5 := arr_sz HA.out
      have ai : (Tryz.prog.info? 71).map (·.size) = some A.size := by rw [az]; exact inz71
      have AA : Hid (A.all (·.oneCell') = true) := arr_all HA.out
      have E1 : Hid (wr.rangeAt b1 (i * 5) (EOb.e x)) := e1
      clear e1
      obtain ⟨w2, Hw2, K2⟩ := box_any wr 71 #[.string ⟨#[]⟩, .int .i64 0, .string ⟨#[]⟩, .int .i64 0, .slice none 0 0] A
      obtain ⟨g1, Hg1⟩ : ∃ g, Hid (wr.heap.size = g) := ⟨_, rfl⟩
      have LA : Hid (some A.size = some ((EOb.e x).toArray.size)) := by show _ = _; rw [HA.out]
      go_upto_region 5 with first
        | (refine wpList_load_mid (by rfl) 71 (.tmp 15) (by rfl) b1 (i * 5) (by rfl) (EOb.e x) _ E1.out Tryz.underlying71 rfl (by rw [EOb.len]; exact inz71) ?_; rw [← HA.out])
        | (refine wpList_store_row (by rfl) 71 (.tmp 7) (.tmp 16) (by rfl) wr.heap.size A (by rfl) (by rfl) 71 _ (heap_alloc_new wr _) ai (by rw [az]; rfl) AA.out ?_)
      rw [Hw2.out, Hg1.out]
      have k1 : Hid (w2.heap[g1]? = some (.cells A 71 (0, 0))) := by rw [← Hg1.out]; exact K2.out.1
      have B2 : Hid (Below wr.heap.size wr w2) := K2.out.2.1
      have BW : Hid (Below w.heap.size w w2) := HB.out.trans (B2.out.mono HB.out.size)
      clear K2 Hw2 Hg1 E1 LA
      go_wp2_with (first
        | (refine wpList_load_row (by rfl) 71 (.tmp 7) (by rfl) g1 (by rfl) 71 A (0, 0) _ k1.out Tryz.underlying71 rfl ai ?_)
        | (go_at_call 54; refine (HC.out x MX w2 A HA BW).mono ?_; rintro e w3 ⟨B, rfl, H3⟩
           obtain ⟨y, hy1, hy2, hy3, hy4⟩ := H3.out
           have HBY : Hid (B = (EOb.e y).toArray) := hy1
           have bz : B.size = 5 := arr_sz hy1
           obtain ⟨w6, r1, r2⟩ := cp_step (obO_stays K) HP.out EX.out hlt Tryz.underlying62 inz71 B2.out hy4 hy2 hy3
           obtain ⟨g4, Hg4⟩ : ∃ g, Hid (w3.heap.size = g) := ⟨_, rfl⟩
           obtain ⟨w4, Hw4⟩ : ∃ W, Hid (w3.alloc (.cells B 71) = W) := ⟨_, rfl⟩
           rw [← hy1, Hw4.out, Hg4.out, Hg0.out] at r1
           have AR : Hid ((Builtin.append_ #[62, 62] 62 #[.slice (some ⟨g0, 0, none⟩) i n, .slice (some ⟨g4, 0, none⟩) 1 1]).run Tryz.prog w4 = .ok (.slice (some ⟨g0, 0, none⟩) (i + 1) n) w6) := r1
           have FIN : Hid (Cp (ObO K) Obx.ob 71 EOb w w6 n (i + 1) X) := r2
           have FD : Hid (Array.foldl (fun cs (x : Value × Nat) => cs.setIfInBounds x.snd x.fst) #[.string ⟨#[]⟩, .int .i64 0, .string ⟨#[]⟩, .int .i64 0, .slice none 0 0] B.zipIdx 0 5 = B) := fold71 HBY.out
           clear hy1 hy2 hy3 hy4 H3 r1 r2)
        | (at_builtin; rw [FD.out, Hw4.out, Hg4.out]; refine wpList_appt (by rfl) (.tmp 17) (.tmp 21) (by rfl) (by rfl) (by rfl) (by rfl) AR ?_))
      go_roundw
      case rel => exact ⟨i + 1, by omega, by go_num, rfl, FIN⟩
      case measure => simp [intOf]; omega
    · have ein : i = n := by omega
      subst ein
      have FIN : Hid _ := cp_end HP.out LX.out
      clear HP
      go_wp2
      go_ret
      refine ⟨some ⟨g0, 0, none⟩, rfl, ?_⟩
      obtain ⟨Y, h1, h2, h3, h4⟩ := FIN.out
      exact ⟨Y, h1, by rw [← Hg0.out]; exact h2, h3, h4⟩
set_option maxHeartbeats 4000000 in
theorem copyObject_e {K : Nat} (hK : K ≤ 1048576) {lo hi : Nat} (x : Obx) {w : World} (hx : Hid (ObO K w lo hi x)) (A0 : Array Value) (hA : Hid (A0 = (EOb.e x).toArray)) :
    Calls Tryz.prog 54 #[.agg A0] w fun e w' => ∃ B, e = .returned (.agg B) ∧ Hid (∃ y, B = (EOb.e y).toArray ∧ Obx.ob y = Obx.ob x ∧ ObO K w' w.heap.size w'.heap.size y ∧ Below w.heap.size w w') := by
  rw [show A0 = #[.string x.ob.key, .int .i64 x.ob.size, .string x.ob.etag, .int .i64 x.ob.time, .slice x.a x.n x.c] from hA.out]
  obtain ⟨w1, Hw1⟩ : ∃ w1, Hid ((w.alloc (.cells #[.string x.ob.key, .int .i64 x.ob.size, .string x.ob.etag, .int .i64 x.ob.time, .slice x.a x.n x.c] 71)).alloc (.cells #[.string ⟨#[]⟩, .int .i64 0, .string ⟨#[]⟩, .int .i64 0, .slice none 0 0] 71) = w1) := ⟨_, rfl⟩
  obtain ⟨g, Hg⟩ : ∃ g, Hid (w.heap.size = g) := ⟨_, rfl⟩
  have S1 : Hid (Bz 71 #[.string ⟨#[]⟩, .int .i64 0, .string ⟨#[]⟩, .int .i64 0, .slice none 0 0] w w1 g #[.string x.ob.key, .int .i64 x.ob.size, .string x.ob.etag, .int .i64 x.ob.time, .slice x.a x.n x.c]) := by rw [← Hw1.out, ← Hg.out]; exact Bz.new _ _ _ _
  have K0 : Bz 71 #[.string ⟨#[]⟩, .int .i64 0, .string ⟨#[]⟩, .int .i64 0, .slice none 0 0] w w1.drew g #[.string x.ob.key, .int .i64 x.ob.size, .string x.ob.etag, .int .i64 x.ob.time, .slice x.a x.n x.c] := ⟨S1.out.b, S1.out.z, S1.out.f.drew, S1.out.e⟩
  clear S1
  go_enter Tryz.func54, Tryz.ntmps54
  go_upto_region 1 with (fail)
  rw [Hw1.out, Hg.out]
  clear Hw1
  refine wp_region_till (S := fun L W => Bz 71 #[.string ⟨#[]⟩, .int .i64 0, .string ⟨#[]⟩, .int .i64 0, .slice none 0 0] w W g #[.string x.ob.key, .int .i64 x.ob.size, .string x.ob.etag, .int .i64 x.ob.time, .slice x.a x.n x.c]) (by kernel_rfl) K0 (fun hS => ?_)
  clear K0
  refine till_take (i := 0) (v := .pointer (some ⟨g, 0, none⟩)) rfl (by kernel_rfl) (by kernel_rfl) (by kernel_rfl) (fun _ _ _ h => h) (fun L w => Iff.rfl) (Or.inl ⟨by rfl, fun w => by go_simp⟩) hS (fun hSb => ?_)
  simp only [List.getElem_toArray, List.getElem_cons_zero, List.getElem_cons_succ, Act.put, List.setIfInBounds_toArray, List.set_cons_zero, List.set_cons_succ]
  clear hS
  refine till_read (i := 1) (c := 2) (v := .string x.ob.key) (T := fun W => Bz 71 #[.string ⟨#[]⟩, .int .i64 0, .string ⟨#[]⟩, .int .i64 0, .slice none 0 0] w W g #[.string x.ob.key, .int .i64 x.ob.size, .string x.ob.etag, .int .i64 x.ob.time, .slice x.a x.n x.c]) rfl rfl (by kernel_rfl) (by kernel_rfl) (by kernel_rfl) (by kernel_rfl) (by kernel_rfl) (fun _ _ _ h => h) (fun L w => Iff.rfl) (fun L w h1 h2 => h2) (Or.inl ⟨by rfl, fun w h => by have q9 := h.cell (i := 0) rfl; go_simp⟩) hSb (fun hS => ?_)
  simp only [List.getElem_toArray, List.getElem_cons_zero, List.getElem_cons_succ, Act.put, List.setIfInBounds_toArray, List.set_cons_zero, List.set_cons_succ]
  clear hSb
  refine till_take (i := 3) (v := .pointer (some ⟨g, 2, none⟩)) rfl (by kernel_rfl) (by kernel_rfl) (by kernel_rfl) (fun _ _ _ h => h) (fun L w => Iff.rfl) (Or.inl ⟨by rfl, fun w => by go_simp⟩) hS (fun hSb => ?_)
  simp only [List.getElem_toArray, List.getElem_cons_zero, List.getElem_cons_succ, Act.put, List.setIfInBounds_toArray, List.set_cons_zero, List.set_cons_succ]
  clear hS
  refine till_read (i := 4) (c := 5) (v := .string x.ob.etag) (T := fun W => Bz 71 #[.string ⟨#[]⟩, .int .i64 0, .string ⟨#[]⟩, .int .i64 0, .slice none 0 0] w W g #[.string x.ob.key, .int .i64 x.ob.size, .string x.ob.etag, .int .i64 x.ob.time, .slice x.a x.n x.c]) rfl rfl (by kernel_rfl) (by kernel_rfl) (by kernel_rfl) (by kernel_rfl) (by kernel_rfl) (fun _ _ _ h => h) (fun L w => Iff.rfl) (fun L w h1 h2 => h2) (Or.inl ⟨by rfl, fun w h => by have q9 := h.cell (i := 2) rfl; go_simp⟩) hSb (fun hS => ?_)
  simp only [List.getElem_toArray, List.getElem_cons_zero, List.getElem_cons_succ, Act.put, List.setIfInBounds_toArray, List.set_cons_zero, List.set_cons_succ]
  clear hSb
  refine till_one (i := 2) (by kernel_rfl) rfl (fun K hK => ?_)
  simp only [List.getElem_toArray, List.getElem_cons_zero, List.getElem_cons_succ]
  rw [if_pos (by rfl)]
  go_simp
  go_wp2_with (go_at_call 79; refine (clone_n x.ob.key _ hx.out.s.1).mono ?_; rintro e w2 ⟨rfl, H2⟩)
  refine hK.out _ _ (hS.below H2.out) (fun hSb => ?_)
  clear hK K
  try simp only [List.getElem_toArray, List.getElem_cons_zero, List.getElem_cons_succ, Act.put, List.setIfInBounds_toArray, List.set_cons_zero, List.set_cons_succ]
  clear hS
  refine till_take (i := 6) (v := .pointer (some ⟨g, 0, none⟩)) rfl (by kernel_rfl) (by kernel_rfl) (by kernel_rfl) (fun _ _ _ h => h) (fun L w => Iff.rfl) (Or.inl ⟨by rfl, fun w => by go_simp⟩) hSb (fun hS => ?_)
  simp only [List.getElem_toArray, List.getElem_cons_zero, List.getElem_cons_succ, Act.put, List.setIfInBounds_toArray, List.set_cons_zero, List.set_cons_succ]
  clear hSb
  refine till_one (i := 5) (by kernel_rfl) rfl (fun K hK => ?_)
  simp only [List.getElem_toArray, List.getElem_cons_zero, List.getElem_cons_succ]
  rw [if_pos (by rfl)]
  go_simp
  go_wp2_with (go_at_call 79; refine (clone_n x.ob.etag _ hx.out.s.2).mono ?_; rintro e w3 ⟨rfl, H3⟩)
  refine hK.out _ _ (hS.below H3.out) (fun hSb => ?_)
  clear hK K
  try simp only [List.getElem_toArray, List.getElem_cons_zero, List.getElem_cons_succ, Act.put, List.setIfInBounds_toArray, List.set_cons_zero, List.set_cons_succ]
  clear hS
  refine till_one (i := 7) (by kernel_rfl) rfl (fun K hK => ?_)
  simp only [List.getElem_toArray, List.getElem_cons_zero, List.getElem_cons_succ]
  rw [if_pos (by rfl)]
  have q9 := hSb.cell (i := 0) rfl
  have q8 := hSb.frz 0
  go_simp
  refine hK.out _ _ (hSb.set rfl) (fun hS => ?_)
  clear hK K
  try simp only [List.getElem_toArray, List.getElem_cons_zero, List.getElem_cons_succ, Act.put, List.setIfInBounds_toArray, List.set_cons_zero, List.set_cons_succ]
  clear hSb
  refine till_take (i := 8) (v := .pointer (some ⟨g, 2, none⟩)) rfl (by kernel_rfl) (by kernel_rfl) (by kernel_rfl) (fun _ _ _ h => h) (fun L w => Iff.rfl) (Or.inl ⟨by rfl, fun w => by go_simp⟩) hS (fun hSb => ?_)
  simp only [List.getElem_toArray, List.getElem_cons_zero, List.getElem_cons_succ, Act.put, List.setIfInBounds_toArray, List.set_cons_zero, List.set_cons_succ]
  clear hS
  refine till_one (i := 9) (by kernel_rfl) rfl (fun K hK => ?_)
  simp only [List.getElem_toArray, List.getElem_cons_zero, List.getElem_cons_succ]
  rw [if_pos (by rfl)]
  have q9 := hSb.cell (i := 2) rfl
  have q8 := hSb.frz 2
  go_simp
  refine hK.out _ _ (hSb.set rfl) (fun hS => ?_)
  clear hK K
  try simp only [List.getElem_toArray, List.getElem_cons_zero, List.getElem_cons_succ, Act.put, List.setIfInBounds_toArray, List.set_cons_zero, List.set_cons_succ]
  clear hSb
  have S4 := hS
  refine till_done (by kernel_rfl) ?_ _
  clear hS
  show (Exit.then _ _) .normal _ _
  obtain ⟨V2, HV2⟩ : ∃ V, Hid ((w3.setCell ⟨g, 0, none⟩ (.string x.ob.key)).setCell ⟨g, 2, none⟩ (.string x.ob.etag) = V) := ⟨_, rfl⟩
  rw [HV2.out] at S4 ⊢
  clear HV2 H2 H3
  have S2 : Hid (Bz 71 #[.string ⟨#[]⟩, .int .i64 0, .string ⟨#[]⟩, .int .i64 0, .slice none 0 0] w V2 g #[.string x.ob.key, .int .i64 x.ob.size, .string x.ob.etag, .int .i64 x.ob.time, .slice x.a x.n x.c]) := S4
  clear S4
  have q4 : V2.cell? ⟨g, 4, none⟩ = some (.slice x.a x.n x.c) := S2.out.cell rfl
  have R2 : Hid (Rw V2 lo hi 26 EPc x.a x.n x.c x.ob.pcs) := hx.out.r.below S2.out.f
  have HP : Hid (∀ p ∈ x.ob.pcs, PcO p) := hx.out.p
  have hn : x.n ≤ 1048576 := Nat.le_trans hx.out.k hK
  go_upto_region 3 with (go_at_call 86; refine (copyPcs (K := K) R2 hn (fun p hp W A hA hW => copyPiece_e p (HP.out p hp) W A hA)).mono ?_; rintro e w3 ⟨a2, rfl, H3⟩; have B3 := H3.out.choose_spec.2.2.2; have q5 : w3.cell? ⟨g, 4, none⟩ = some (.slice x.a x.n x.c) := (S2.out.below B3).cell rfl; have q6 := (S2.out.below B3).frz 4)
  have S3 : Hid (Bz 71 #[.string ⟨#[]⟩, .int .i64 0, .string ⟨#[]⟩, .int .i64 0, .slice none 0 0] w (w3.setCell ⟨g, 4, none⟩ (.slice a2 x.n x.n)) g #[.string x.ob.key, .int .i64 x.ob.size, .string x.ob.etag, .int .i64 x.ob.time, .slice a2 x.n x.n]) := (S2.out.below B3).put 4 _
  have LG : Hid (g < V2.heap.size) := (Array.getElem?_eq_some_iff.1 S2.out.b).1
  have R3 : Hid (∃ Y, Y = x.ob.pcs ∧ Rw (w3.setCell ⟨g, 4, none⟩ (.slice a2 x.n x.n)) V2.heap.size w3.heap.size 26 EPc a2 x.n x.n Y) := by
    obtain ⟨Y, h1, h2, h3, h4⟩ := H3.out
    refine ⟨Y, by simpa using h1, h2.keep1 (fun q e => Below.heap_setCell _ _ _ _ (show q ≠ g by have := (h2.lt e).1; have := LG.out; omega))⟩
  have Z3 : Hid (w3.heap.size = (w3.setCell ⟨g, 4, none⟩ (.slice a2 x.n x.n)).heap.size) := (by simp [World.setCell] : w3.heap.size = (w3.setCell ⟨g, 4, none⟩ (.slice a2 x.n x.n)).heap.size)
  obtain ⟨V3, HV3⟩ : ∃ V, Hid (w3.setCell ⟨g, 4, none⟩ (.slice a2 x.n x.n) = V) := ⟨_, rfl⟩
  have LW : Hid (w.heap.size ≤ V2.heap.size) := S2.out.f.size
  rw [HV3.out] at S3 R3 Z3 ⊢
  clear HV3 q4 q5 q6 B3 H3 R2 S2
  obtain ⟨A, HA⟩ : ∃ A, Hid ((#[.string x.ob.key, .int .i64 x.ob.size, .string x.ob.etag, .int .i64 x.ob.time, .slice a2 x.n x.n] : Array Value) = A) := ⟨_, rfl⟩
  have a5 : (Tryz.prog.info? 71).map (·.size) = some A.size := by rw [← HA.out]; exact inz71
  have AA : Hid (A.all (·.oneCell') = true) := (show A.all (·.oneCell') = true by rw [← HA.out]; kernel_rfl)
  have a6 : Hid (A.size = 5) := (show A.size = 5 by rw [← HA.out]; rfl)
  have S9 : Hid (Bz 71 #[.string ⟨#[]⟩, .int .i64 0, .string ⟨#[]⟩, .int .i64 0, .slice none 0 0] w V3 g A) := by rw [← HA.out]; exact S3.out
  go_wp2_with (first
    | (refine wpList_load_row (by rfl) 71 (.tmp 1) (by rfl) g (by rfl) 71 A (0, 0) _ S9.out.b Tryz.underlying71 rfl a5 ?_)
    | (refine wpList_store_row (by rfl) 71 (.tmp 2) (.tmp 15) (by rfl) (g + 1) A (by rfl) (by rfl) 71 _ S9.out.z a5 (by rw [a6.out]; rfl) AA.out ?_))
  refine bodyPost_ret (results_cell_row Tryz.results54 _ _ (g + 1) 71 A (0, 0) _ (by rfl) (setRow_heap _ _ _ _ _ _ S9.out.z) Tryz.underlying71 rfl a5) rfl ?_
  obtain ⟨Y, rfl, h2⟩ := R3.out
  refine ⟨A, rfl, ⟨x.ob, a2, x.n, x.n⟩, HA.out.symm, rfl, ⟨?_, hx.out.p, hx.out.k, hx.out.s⟩, below_setRow S9.out.f (by have := S9.out.e; omega) _⟩
  refine ((h2.mono LW.out (Nat.le_of_eq (Z3.out.trans (by rw [setRow_size])))).keep1 (fun q e => setRow_other _ _ _ _ ?_))
  exact fun e2 => by
    obtain ⟨cur, h8, _⟩ := h2.blk e
    rw [e2, S9.out.z] at h8
    simp at h8
end Go.Proofs.YtfabnnbljkkihaaGreatDoor
