/- What the document's own Dot and the laws' own Kept do, for all slices. -/
import Derived.Test.YtgfleebnddjhgaaWn
namespace Go.Proofs.Ytgfleebnddjhgaa
open Go.ChangeShapes Go.WideShapes Go.ChangeAt Go.RowKit
set_option linter.unusedVariables false
set_option linter.unusedSimpArgs false
set_option maxHeartbeats 1000000 in
theorem refdot_some (b1 o1 b2 o2 c1 c2 : Nat) (l1 l2 : List Nat) (w : World) (h1 : ∀ x ∈ l1, x < 256) (h2 : ∀ x ∈ l2, x < 256) (m1 : l1.length ≤ maxLen) (m2 : l2.length ≤ maxLen) (r1 : Row w b1 o1 l1) (r2 : Row w b2 o2 l2) :
    Calls Try.prog 26 #[.slice (some ⟨b1, o1, none⟩) l1.length c1, .slice (some ⟨b2, o2, none⟩) l2.length c2] w fun e w' => e = .returned (.int .u8 (dot l1 l2 : Nat)) ∧ ∃ n, w' = w.drewN n := by
  unfold maxLen at m1 m2
  obtain ⟨n1, hn1⟩ : ∃ n, n = l1.length := ⟨_, rfl⟩
  obtain ⟨n2, hn2⟩ : ∃ n, n = l2.length := ⟨_, rfl⟩
  rw [← hn1] at m1 ⊢; rw [← hn2] at m2 ⊢
  have H1 : Hid (n1 = l1.length) := hn1
  have H2 : Hid (n2 = l2.length) := hn2
  have R1 : Hid (Row w b1 o1 l1) := r1
  have R2 : Hid (Row w b2 o2 l2) := r2
  have B1 : Hid (∀ x ∈ l1, x < 256) := h1
  have B2 : Hid (∀ x ∈ l2, x < 256) := h2
  obtain ⟨D, HD⟩ : ∃ D, Hid (dot l1 l2 = D) := ⟨_, rfl⟩
  rw [HD.out]
  clear hn1 hn2 r1 r2 h1 h2
  go_enter Try.func26, Try.ntmps26
  go_wp2
  go_loopw [5, 6] (fun ts ti wr => ∃ k d : Nat, k ≤ n1 ∧ k ≤ n2 ∧ d < 256 ∧ Hid (d = dotN l1 l2 k) ∧ ts = .int .u8 d ∧ ti = .int .i64 k ∧ Hid (∃ n, wr = w.drewN n)) (fun _ ti _ => n1 - (intOf ti).toNat)
  case atStart => exact ⟨0, 0, by omega, by omega, by omega, rfl, rfl, rfl, ⟨0, rfl⟩⟩
  case round =>
    obtain ⟨k, d, hk1, hk2, hd, HDk, rfl, rfl, HW⟩ := hrel
    by_cases hlt : k < n1 ∧ k < n2
    · obtain ⟨hl1, hl2⟩ := hlt
      obtain ⟨x, Hx⟩ : ∃ x, Hid (l1.getD k 0 = x) := ⟨_, rfl⟩
      obtain ⟨y, Hy⟩ : ∃ y, Hid (l2.getD k 0 = y) := ⟨_, rfl⟩
      have hx : x < 256 := by rw [← Hx.out]; exact getD_lt B1.out k
      have hy : y < 256 := by rw [← Hy.out]; exact getD_lt B2.out k
      have c1' : wr.cell? ⟨b1, o1 + k, none⟩ = some (.int .u8 (x : Nat)) := by obtain ⟨n, hn⟩ := HW.out; rw [hn, cell_drewN, ← Hx.out]; exact R1.out k (by rw [← H1.out]; exact hl1)
      have c2' : wr.cell? ⟨b2, o2 + k, none⟩ = some (.int .u8 (y : Nat)) := by obtain ⟨n, hn⟩ := HW.out; rw [hn, cell_drewN, ← Hy.out]; exact R2.out k (by rw [← H2.out]; exact hl2)
      go_wp2
      go_quiet ((go_at_call 18; exact Calls.quiet_of_same (refmul_any x y hx hy _)))
      go_wp2
      go_roundw
      case rel =>
        refine ⟨k + 1, d ^^^ Gm.mul x y, by omega, by omega, Gm.xor_lt _ _ hd (Gm.mul_lt x y hx), ?_, by rw [u8_xor_nat _ _ hd (Gm.mul_lt x y hx)], by go_num, ?_⟩
        · rw [HDk.out, ← Hx.out, ← Hy.out]; rfl
        · obtain ⟨n, hn⟩ := HW.out; rw [hn]; exact ⟨_, World.drewN_drewN _ _ _⟩
      case measure => simp [intOf]; omega
    · have hkm : k = min n1 n2 := by omega
      have fin : d = D := by rw [HDk.out, ← HD.out]; unfold dot; rw [← H1.out, ← H2.out, ← hkm]
      have FIN : Hid (d = D) := fin
      clear fin hkm
      by_cases hl1 : k < n1
      · have hl2 : ¬ k < n2 := by omega
        clear hlt
        go_wp2
        go_ret
        exact ⟨ret_int (by rw [FIN.out]), HW.out⟩
      · clear hlt
        go_wp2
        go_ret
        exact ⟨ret_int (by rw [FIN.out]), HW.out⟩
theorem refdot_nil {a1 a2 : Option Addr} {n1 n2 k1 k2 : Nat} (w : World) (h : n1 = 0 ∨ n2 = 0) :
    Calls Try.prog 26 #[.slice a1 n1 k1, .slice a2 n2 k2] w fun e w' => e = .returned (.int .u8 (0 : Int)) ∧ w' = w := by
  rcases h with rfl | rfl
  · go_enter Try.func26, Try.ntmps26
    go_wp2
    refine wp_loop_rounds 1 ?_
    rw [rounds_succ]
    go_wp2
    go_ret
    exact ⟨rfl, rfl⟩
  · by_cases hp : 0 < n1
    · go_enter Try.func26, Try.ntmps26
      go_wp2
      refine wp_loop_rounds 1 ?_
      rw [rounds_succ]
      go_wp2
      go_ret
      exact ⟨rfl, rfl⟩
    · obtain rfl : n1 = 0 := by omega
      go_enter Try.func26, Try.ntmps26
      go_wp2
      refine wp_loop_rounds 1 ?_
      rw [rounds_succ]
      go_wp2
      go_ret
      exact ⟨rfl, rfl⟩
theorem refdot_n {a1 a2 : Option Addr} {n1 n2 k1 k2 : Nat} {l1 l2 : List Nat} {w : World} (h1 : Hid (Sln w a1 n1 l1)) (h2 : Hid (Sln w a2 n2 l2)) :
    Calls Try.prog 26 #[.slice a1 n1 k1, .slice a2 n2 k2] w fun e w' => e = .returned (.int .u8 (dot l1 l2 : Nat)) ∧ Hid (∃ n, w' = w.drewN n) := by
  have e1 := h1.out.len
  have e2 := h2.out.len
  by_cases g1 : l1 = []
  · subst g1
    refine (refdot_nil w (.inl e1)).mono ?_
    rintro e w' ⟨rfl, rfl⟩
    exact ⟨by simp [dot, dotN], ⟨0, rfl⟩⟩
  by_cases g2 : l2 = []
  · subst g2
    refine (refdot_nil w (.inr e2)).mono ?_
    rintro e w' ⟨rfl, rfl⟩
    exact ⟨by simp [dot, dotN], ⟨0, rfl⟩⟩
  subst e1; subst e2
  obtain ⟨b1, o1, rfl, _, r1⟩ := h1.out.sli.2.2.resolve_left g1
  obtain ⟨b2, o2, rfl, _, r2⟩ := h2.out.sli.2.2.resolve_left g2
  have m1 := h1.out.sli.2.1
  have m2 := h2.out.sli.2.1
  exact refdot_some b1 o1 b2 o2 k1 k2 l1 l2 w h1.out.lt h2.out.lt (by unfold maxLen; omega) (by unfold maxLen; omega) r1 r2
theorem marks_cell {w : World} {g n : Nat} {l : List Nat} (h : Blk w g (l ++ marks)) (hn : n = l.length) (i : Nat) (hi : i < 6) : w.cell? ⟨g, n + i, none⟩ = some (.int .u8 ((201 + i : Nat) : Int)) := by
  have h1 := h.cell (i := n + i) (by simp [marks]; omega)
  rw [h1]
  have h2 : (l ++ marks).getD (n + i) 0 = 201 + i := by
    simp only [List.getD]
    rw [List.getElem?_append_right (by omega)]
    have : n + i - l.length = i := by omega
    rw [this]
    match i, hi with
    | 0, _ => rfl
    | 1, _ => rfl
    | 2, _ => rfl
    | 3, _ => rfl
    | 4, _ => rfl
    | 5, _ => rfl
  rw [h2]
theorem blk_begin {w : World} {g n : Nat} {l : List Nat} (h : Blk w g (l ++ marks)) (hn : n = l.length) (h1 : ∀ x ∈ l, x < 256) (h2 : l.length ≤ 140737488351232) : Sln w (some ⟨g, 0, none⟩) n l :=
  ⟨hn, h1, h2, .inr ⟨g, 0, rfl, h.lt, fun i hi => by
    have h3 := h.row i (by simp; omega)
    rw [h3]
    have : (l ++ marks).getD i 0 = l.getD i 0 := by simp only [List.getD]; rw [List.getElem?_append_left hi]
    rw [this]⟩⟩
set_option maxHeartbeats 1000000 in
theorem kept_n {g n N k : Nat} {a : Option Addr} {l : List Nat} {w : World} (hB : Hid (Blk w g (l ++ marks))) (hN : Hid (N = n + 6)) (h : Hid (Sln w a n l)) :
    Calls Try.prog 29 #[.slice (some ⟨g, 0, none⟩) n N, .slice a n k] w fun e w' => e = .returned (.bool true) ∧ Hid (∃ n, w' = w.drewN n) := by
  have m := h.out.sli.2.1
  have e := h.out.len
  rw [← e] at m
  have sx : Hid (Sln w (some ⟨g, 0, none⟩) n l) := blk_begin hB.out e h.out.lt h.out.sli.2.1
  have hN2 := hN.out
  subst hN2
  have c1 : ∀ j, (convert 31 9 (.slice (some ⟨g, 0, none⟩) n (n + 6))).run Try.prog (w.drewN j) = .ok (.string (spell l)) (w.drewN j) := fun j => conv_n (sx.out.drewN j)
  have c2 : ∀ j, (convert 31 9 (.slice a n k)).run Try.prog (w.drewN j) = .ok (.string (spell l)) (w.drewN j) := fun j => conv_n (h.out.drewN j)
  have E : Hid (n = l.length) := e
  clear e
  go_enter Try.func29, Try.ntmps29
  go_wp2
  go_quiet (fail)
  clear c1 c2
  go_wp2
  obtain ⟨w2, hw2⟩ : ∃ w2, w2 = w.drewN nq := ⟨_, rfl⟩
  have Q : Hid (∃ k, w2 = w.drewN k) := ⟨nq, hw2⟩
  have M : Hid (∀ i, i < 6 → w2.cell? ⟨g, n + i, none⟩ = some (.int .u8 ((201 + i : Nat) : Int))) := by rw [hw2]; exact fun i hi => marks_cell (hB.out.drewN nq) E.out i hi
  rw [← hw2]
  clear hw2
  go_loop [6] (fun ti => ∃ k : Nat, k ≤ 6 ∧ ti = .int .i64 k) (fun ti => 6 - (intOf ti).toNat)
  case atStart => exact ⟨0, by omega, rfl⟩
  case round =>
    obtain ⟨k, hk, rfl⟩ := hrel
    by_cases hlt : k < 6
    · have c3 := M.out k hlt
      have i1 : (k : Int) < 6 := by omega
      go_wp2
      go_round
      case rel => exact ⟨k + 1, by omega, by go_num⟩
      case measure => simp [intOf]; omega
    · go_wp2
      go_ret
      exact ⟨rfl, Q.out⟩
end Go.Proofs.Ytgfleebnddjhgaa
