/- The document's own Num and Bytes. -/
import Derived.Test.YtppibcambhmomaaDoorMh
import Derived.Test.YtppibcambhmomaaDoorMWa
import Derived.Test.YtppibcambhmomaaDoorMXa
import Derived.Test.YtppibcambhmomaaDoorMOr
import Derived.Test.YtppibcambhmomaaDoorMWb
namespace Go.Proofs.YtppibcambhmomaaDoor
set_option maxRecDepth 20000
open Go.ChangeShapes Go.WideShapes Go.ChangeAt Go.RowKit
set_option linter.unusedVariables false
set_option linter.unusedSimpArgs false
set_option maxHeartbeats 1000000 in
theorem refnum_n {w : World} {N : Nat} (hN : N < 9223372036854775808) :
    Calls Tryd.prog 25 #[.int .i64 (N : Int)] w fun e w' => ∃ a' n' c', e = .returned (.slice a' n' c') ∧ Hid (Own w' w.heap.size a' n' c' (enc N) ∧ Below w.heap.size w w') := by
  have TL : Hid ((enc N).length ≤ 140737488352256) := by have := enc_nine hN; show _ ≤ _; omega
  have A0 : Hid (Own (w.alloc (.cells #[] 5)) w.heap.size (some ⟨w.heap.size, 0, none⟩) 0 0 [] ∧ Below w.heap.size w (w.alloc (.cells #[] 5)) ∧ [] ++ enc N = enc N) := ⟨own_empty w, (Below.refl _ _).alloc (Nat.le_refl _) _, rfl⟩
  obtain ⟨T, HT⟩ : ∃ T, Hid (enc N = T) := ⟨_, rfl⟩
  rw [HT.out] at TL A0 ⊢
  rw [← HT.out] at A0
  have A1 : Hid (Own (w.alloc (.cells #[] 5)) w.heap.size (some ⟨w.heap.size, 0, none⟩) 0 0 [] ∧ Below w.heap.size w (w.alloc (.cells #[] 5)) ∧ [] ++ enc N = T) := by rw [← HT.out]; exact A0.out
  clear A0 HT
  go_enter Tryd.func25, Tryd.ntmps25
  go_wp2
  go_loopw [0, 3] (fun tn tv wr => ∃ (a1 : Option Addr) (n1 c1 m : Nat) (P : List Nat), tv = .slice a1 n1 c1 ∧ tn = .int .i64 m ∧ m < 9223372036854775808 ∧ Hid (Own wr w.heap.size a1 n1 c1 P ∧ Below w.heap.size w wr ∧ P ++ enc m = T)) (fun tn _ _ => (intOf tn).toNat)
  case atStart => exact ⟨_, 0, 0, N, [], rfl, rfl, hN, A1.out⟩
  case round =>
    clear A1
    obtain ⟨a1, n1, c1, m, P, rfl, rfl, hm, H1⟩ := hrel
    have hn1 : n1 + 1 ≤ 140737488352256 := by
      have h1 := H1.out.1.len
      have h2 := congrArg List.length H1.out.2.2
      have h3 := TL.out
      have h4 := enc_pos m
      rw [List.length_append] at h2
      omega
    obtain ⟨y, Hy⟩ : ∃ y, Hid (m % 128 = y) := ⟨_, rfl⟩
    have hy : y < 128 := by rw [← Hy.out]; omega
    obtain ⟨q, Hq⟩ : ∃ q, Hid (m / 128 = q) := ⟨_, rfl⟩
    have hq : q < 9223372036854775808 := by rw [← Hq.out]; omega
    have e1 : Int.tmod (m : Int) 128 = (y : Int) := by rw [Int.tmod_eq_emod_of_nonneg (by omega)]; have := Hy.out; omega
    have e1' : (m : Int) % 128 = (y : Int) := by have := Hy.out; omega
    have e2 : Int.tdiv (m : Int) 128 = (q : Int) := by rw [Int.tdiv_eq_ediv_of_nonneg (by omega)]; have := Hq.out; omega
    have e2' : (m : Int) / 128 = (q : Int) := by have := Hq.out; omega
    have HB : Hid (w.heap.size ≤ wr.heap.size) := H1.out.2.1.size
    by_cases hlt : m < 128
    · obtain ⟨a2, c2, w2, hrun, h2, h3, h4⟩ := app_byte H1.out.1 (x := y) (by omega) hn1 HB.out
      have AP : Hid ((Builtin.append_ #[27, 27] 27 #[.slice a1 n1 c1,.slice (some ⟨wr.heap.size, 0, none⟩) 1 1]).run Tryd.prog (wr.alloc (.cells #[.int .u8 (y : Int)] 5)) = .ok (.slice a2 (n1 + 1) c2) w2) := hrun
      have F : Hid (Own w2 w.heap.size a2 (n1 + 1) c2 T ∧ Below w.heap.size w w2) := by
        have e := H1.out.2.2
        rw [enc_lt hlt, show m = y by have := Hy.out; omega] at e
        rw [← e]
        exact ⟨h2, H1.out.2.1.grown h3 HB.out (fun j hj => (H1.out.1.ge j hj).1)⟩
      have q0 : q = 0 := by rw [← Hq.out]; omega
      subst q0
      clear hrun h2 h3 h4 H1 Hy Hq hlt
      go_wp2_with (at_builtin; refine wpList_app (by rfl) (.tmp 13) (.tmp 15) (by rfl) (by rfl) (by rfl) (by rfl) AP ?_)
      go_ret
      exact ⟨a2, n1 + 1, c2, rfl, F.out⟩
    · obtain ⟨x, Hx⟩ : ∃ x, Hid (x = y + 128) := ⟨_, rfl⟩
      have hx : x < 256 := by rw [Hx.out]; omega
      have e3 : (y : Int) + 128 = (x : Int) := by have := Hx.out; omega
      have q0 : ¬ ((q : Int) = 0) := by have := Hq.out; omega
      obtain ⟨a2, c2, w2, hrun, h2, h3, h4⟩ := app_byte H1.out.1 (x := x) hx hn1 HB.out
      have AP : Hid ((Builtin.append_ #[27, 27] 27 #[.slice a1 n1 c1,.slice (some ⟨wr.heap.size, 0, none⟩) 1 1]).run Tryd.prog (wr.alloc (.cells #[.int .u8 (x : Int)] 5)) = .ok (.slice a2 (n1 + 1) c2) w2) := hrun
      have F : Hid (Own w2 w.heap.size a2 (n1 + 1) c2 (P ++ [x]) ∧ Below w.heap.size w w2 ∧ P ++ [x] ++ enc q = T) := by
        refine ⟨h2, H1.out.2.1.grown h3 HB.out (fun j hj => (H1.out.1.ge j hj).1), ?_⟩
        have e := H1.out.2.2
        rw [enc_ge (by omega), Hy.out, Hq.out] at e
        rw [← e, Hx.out]
        simp
      have HQ : Hid (q < m) := by show _ < _; have := Hq.out; omega
      clear hrun h2 h3 h4 H1 Hy Hq Hx hlt
      go_wp2_with (at_builtin; refine wpList_app (by rfl) (.tmp 17) (.tmp 20) (by rfl) (by rfl) (by rfl) (by rfl) AP ?_)
      go_roundw
      case rel => exact ⟨a2, n1 + 1, c2, q, P ++ [x], rfl, rfl, hq, F.out⟩
      case measure => have := HQ.out; simp [intOf]; omega
end Go.Proofs.YtppibcambhmomaaDoor
namespace Go.Proofs.YtppibcambhmomaaDoor
open Go.ChangeShapes Go.WideShapes Go.ChangeAt Go.RowKit
set_option linter.unusedVariables false
set_option linter.unusedSimpArgs false
set_option maxHeartbeats 1000000 in
theorem refbytes_n {w : World} {a : Option Addr} {n c : Nat} {l : List Nat} (h : Hid (Sln w a n l)) (hc : Hid (a = none → c = 0)) (hn : n + 9 ≤ 140737488352256) :
    Calls Tryd.prog 26 #[.slice a n c] w fun e w' => ∃ a' m c', e = .returned (.slice a' m c') ∧ Hid (Own w' w.heap.size a' m c' (enc n ++ l) ∧ Below w.heap.size w w') := by
  have hN : n < 9223372036854775808 := by omega
  go_enter Tryd.func26, Tryd.ntmps26
  go_wp2_with (first
    | (go_at_call 25; refine (refnum_n hN).mono ?_; rintro e w1 ⟨a1, n1, c1, rfl, H1⟩
       have b1 : n1 ≤ 9 := by rw [H1.out.1.len]; exact enc_nine hN
       obtain ⟨a2, c2, w2, hrun, own2, gr2, new2⟩ := app_any (c2 := c) H1.out.1 (h.out.below H1.out.2) hc.out (by omega) H1.out.2.size
       have AP : Hid ((Builtin.append_ #[27, 27] 27 #[.slice a1 n1 c1,.slice a n c]).run Tryd.prog w1 = .ok (.slice a2 (n1 + n) c2) w2) := hrun
       have F : Hid (Own w2 w.heap.size a2 (n1 + n) c2 (enc n ++ l) ∧ Below w.heap.size w w2) := ⟨own2, H1.out.2.grown gr2 H1.out.2.size (fun j hj => (H1.out.1.ge j hj).1)⟩
       clear hrun own2 gr2 new2)
    | (at_builtin; refine wpList_app (by rfl) (.tmp 5) (.tmp 6) (by rfl) (by rfl) (by rfl) (by rfl) AP ?_))
  go_ret
  exact ⟨a2, n1 + n, c2, rfl, F.out⟩
theorem valL_bound {A : List Nat} (h : A.length ≤ 8) : valL A < 72057594037927936 := by
  have h1 := valL_lt A
  have h2 : 128 ^ A.length ≤ 128 ^ 8 := Nat.pow_le_pow_right (by omega) h
  omega
theorem valL_bound9 {A : List Nat} (h : A.length ≤ 9) : valL A < 9223372036854775808 := by
  have h1 := valL_lt A
  have h2 : 128 ^ A.length ≤ 128 ^ 9 := Nat.pow_le_pow_right (by omega) h
  omega
theorem drop_at {A : List Nat} {r : Nat} (h : r < A.length) : A.drop r = A.getD r 0 :: A.drop (r + 1) := by
  rw [List.drop_eq_getElem_cons h]
  simp [List.getD, h]
theorem getD_drop' (l : List Nat) (p i : Nat) : (l.drop p).getD i 0 = l.getD (p + i) 0 := by simp [List.getD]
theorem getD_take' {l : List Nat} {m i : Nat} (h : i < m) : (l.take m).getD i 0 = l.getD i 0 := by simp [List.getD, List.getElem?_take_of_lt h]
end Go.Proofs.YtppibcambhmomaaDoor
