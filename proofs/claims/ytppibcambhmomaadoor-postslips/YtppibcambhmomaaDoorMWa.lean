/- What numberAt does: the number at the beginning of bytes. -/
import Derived.Test.YtppibcambhmomaaDoorMh
import Derived.Test.YtppibcambhmomaaDoorMVa
import Derived.Test.YtppibcambhmomaaDoorMBa
namespace Go.Proofs.YtppibcambhmomaaDoor
open Go.ChangeShapes Go.WideShapes Go.ChangeAt Go.RowKit
set_option linter.unusedVariables false
set_option linter.unusedSimpArgs false
theorem u8_and127 (a : Nat) (ha : a < 256) : bits .and .u8 (a : Int) 127 = ((a % 128 : Nat) : Int) := by
  have := u8_and_nat a 127 ha (by omega)
  rw [and127] at this
  exact this
theorem i64_or_nat (a b : Nat) (ha : a < 9223372036854775808) (hb : b < 9223372036854775808) : bits .or .i64 (a : Int) (b : Int) = ((a ||| b : Nat) : Int) := by
  have h : a ||| b < 9223372036854775808 := Nat.or_lt_two_pow (n := 63) ha hb
  show IntKind.i64.wrap ((BitVec.ofInt 64 (a : Int) ||| BitVec.ofInt 64 (b : Int)).toNat : Int) = _
  rw [BitVec.toNat_or, ofInt_i64 a ha, ofInt_i64 b hb, IntKind.wrap_i64]
  omega
theorem p63 : (128 : Nat) ^ 9 = 9223372036854775808 := by decide
theorem pk {k : Nat} (hk : k ≤ 9) : (128 : Nat) ^ k ≤ 9223372036854775808 := by rw [← p63]; exact Nat.pow_le_pow_right (by omega) hk
theorem grp {k y : Nat} (hk : k < 9) (hy : y < 128) : y * 128 ^ k < 9223372036854775808 := by
  have h1 : y * 128 ^ k < 128 * 128 ^ k := Nat.mul_lt_mul_of_pos_right hy (Nat.pow_pos (by omega))
  have h2 : 128 * 128 ^ k = 128 ^ (k + 1) := by rw [Nat.pow_succ, Nat.mul_comm]
  have h3 := pk (k := k + 1) (by omega)
  omega
theorem grp_wrap {k y : Nat} (hk : k < 9) (hy : y < 128) : wrap64 ((y : Int) * 2 ^ (7 * k)) = ((y * 128 ^ k : Nat) : Int) := by
  have e : (y : Int) * 2 ^ (7 * k) = ((y * 128 ^ k : Nat) : Int) := by
    rw [Int.natCast_mul, Int.natCast_pow, Int.pow_mul]
    rfl
  rw [e]
  have := grp hk hy
  unfold wrap64
  omega
theorem grp_or {k y acc : Nat} (hk : k < 9) (hy : y < 128) (ha : acc < 128 ^ k) : bits .or .i64 (acc : Int) ((y * 128 ^ k : Nat) : Int) = ((acc + y * 128 ^ k : Nat) : Int) := by
  have h1 := pk (k := k) (by omega)
  rw [i64_or_nat acc (y * 128 ^ k) (by omega) (grp hk hy)]
  have e : (128 : Nat) ^ k = 2 ^ (7 * k) := by rw [Nat.pow_mul]
  have := nat_join (7 * k) (y * 128 ^ k) acc (by rw [e, Nat.mul_mod_left]) (by rw [← e]; exact ha)
  rw [Nat.or_comm, this, Nat.add_comm]
theorem grp_lt {k y acc : Nat} (hy : y < 128) (ha : acc < 128 ^ k) : acc + y * 128 ^ k < 128 ^ (k + 1) := by
  have h1 : y * 128 ^ k ≤ 127 * 128 ^ k := Nat.mul_le_mul_right _ (by omega)
  rw [Nat.pow_succ]
  omega
theorem nat_end {l : List Nat} {k acc : Nat} (hk : k < 9) (hl : k < l.length) (hx : l.getD k 0 < 128) : nat (9 - k) l k acc = (acc + l.getD k 0 % 128 * 128 ^ k, k + 1, decide (k = 0) || decide (0 < l.getD k 0)) := by
  rw [show 9 - k = 8 - k + 1 by omega, nat, if_pos hl, if_pos hx]
theorem nat_more {l : List Nat} {k acc : Nat} (hk : k < 9) (hl : k < l.length) (hx : ¬ l.getD k 0 < 128) : nat (9 - k) l k acc = nat (9 - (k + 1)) l (k + 1) (acc + l.getD k 0 % 128 * 128 ^ k) := by
  rw [show 9 - k = (9 - (k + 1)) + 1 by omega, nat, if_pos hl, if_neg hx]
theorem nat_off {l : List Nat} {k acc : Nat} (h : ¬ (k < l.length ∧ k < 9)) : nat (9 - k) l k acc = (0, 0, false) := by
  by_cases hk : k < 9
  · rw [show 9 - k = (8 - k) + 1 by omega, nat, if_neg (fun hl => h ⟨hl, hk⟩)]
  · rw [show 9 - k = 0 by omega, nat]
set_option maxRecDepth 20000 in
set_option maxHeartbeats 2000000 in
theorem numberAt_n {w : World} {a : Option Addr} {n c : Nat} {l : List Nat} {N S : Nat} {ok : Bool} (hS : Hid (Sln w a n l)) (hR : Hid (nat 9 l 0 0 = (N, S, ok))) :
    Calls Tryd.prog 85 #[.slice a n c] w fun e w' => e = .returned (.tuple #[.int .i64 (N : Int),.int .i64 (S : Int), .bool ok]) ∧ Hid (∃ j, w' = w.drewN j) := by
  have m := hS.out.sli.2.1
  have e := hS.out.len
  rw [← e] at m
  have hE : Hid (n = l.length) := e
  clear e
  have F0 : Hid (∃ j, w = w.drewN j) := ⟨0, rfl⟩
  go_enter Tryd.func85, Tryd.ntmps85
  go_wp2
  all_goals
    go_loop [2, 9] (fun tn ti => ∃ k acc : Nat, k ≤ 9 ∧ k ≤ n ∧ Hid (acc < 128 ^ k ∧ nat (9 - k) l k acc = (N, S, ok)) ∧ tn = .int .i64 acc ∧ ti = .int .i64 k) (fun _ ti => 9 - (intOf ti).toNat)
    case atStart => exact ⟨0, 0, by omega, by omega, ⟨by simp, hR.out⟩, rfl, rfl⟩
    case round =>
      obtain ⟨k, acc, hk9, hkn, HA, rfl, rfl⟩ := hrel
      by_cases hlt : k < n ∧ k < 9
      · have hlt1 := hlt.1
        have hlt2 := hlt.2
        obtain ⟨b, off, rfl, c1⟩ := row_at hS.out hlt1
        have hl1 : k < l.length := by rw [← hE.out]; exact hlt1
        have TE := @nat_end l k acc hlt2 hl1
        have TM := @nat_more l k acc hlt2 hl1
        obtain ⟨x, Hx⟩ : ∃ x, Hid (l.getD k 0 = x) := ⟨_, rfl⟩
        have hx : x < 256 := by rw [← Hx.out]; exact getD_lt hS.out.lt k
        rw [Hx.out] at c1 TE TM
        obtain ⟨y, Hy⟩ : ∃ y, Hid (x % 128 = y) := ⟨_, rfl⟩
        have hy : y < 128 := by rw [← Hy.out]; omega
        have e1 : bits .and .u8 (x : Int) 127 = (y : Int) := by rw [u8_and127 x hx, Hy.out]
        rw [Hy.out, HA.out.2] at TE TM
        have e2 := grp_wrap hlt2 hy
        have e3 := grp_or hlt2 hy HA.out.1
        have l3 := grp_lt hy HA.out.1
        obtain ⟨z, Hz⟩ : ∃ z, Hid (y * 128 ^ k = z) := ⟨_, rfl⟩
        rw [Hz.out] at e2 e3 l3 TE TM
        obtain ⟨ac, Hac⟩ : ∃ ac, Hid (acc + z = ac) := ⟨_, rfl⟩
        rw [Hac.out] at e3 l3 TE TM
        have L3 : Hid (ac < 128 ^ (k + 1)) := l3
        have HL : Hid (k < n ∧ k < 9 ∧ True) := ⟨hlt1, hlt2, trivial⟩
        have iy : (y : Int) < 128 := by omega
        have ix2 : (x : Int) < 256 := by omega
        clear l3 hl1 hlt HA hR Hz Hac Hy hy
        by_cases hx1 : x < 128
        · have T := TE hx1
          clear TE TM
          simp only [Prod.mk.injEq] at T
          obtain ⟨rfl, eS, T3⟩ := T
          have ix : (x : Int) < 128 := by omega
          have e4 : (k : Int) + 1 = (S : Int) := by omega
          have e5 : IntKind.i64.wrap ((k : Int) + 1) = (S : Int) := by rw [IntKind.wrap_i64]; omega
          have e6 : IntKind.i64.wrap (S : Int) = (S : Int) := by rw [IntKind.wrap_i64]; omega
          have eS' : Hid (k + 1 = S) := eS.symm
          have T3' : Hid (ok = (decide (k = 0) || decide (0 < x))) := T3
          clear hx hx1 eS T3
          go_upto_region 6 with (fail)
          clear e1 e2 e3 e4 e5 e6
          by_cases hk0 : k = 0
          · subst hk0
            have q1 : ok = true := by rw [T3'.out]; simp
            have q2 : S = 1 := by rw [← eS'.out]
            subst q1 q2
            clear T3' eS'
            go_wp2
            go_quiet (fail)
            go_wp2
            refine bodyPost_ret (results_tmp3 rfl _ _ _) rfl ?_
            exact ⟨rfl, nq, rfl⟩
          · have ik : ¬ ((k : Int) = 0) := by omega
            have BK : Hid (((k : Int) == 0) = false) := by show _ = _; simpa using hk0
            have w1 : IntKind.i64.wrap ((k : Int) + 1) = (S : Int) := by have := eS'.out; rw [IntKind.wrap_i64]; omega
            have w2 : (k : Int) + 1 = (S : Int) := by have := eS'.out; omega
            have w3 : IntKind.i64.wrap (S : Int) = (S : Int) := by have := eS'.out; rw [IntKind.wrap_i64]; omega
            by_cases hx0 : x = 0
            · have q1 : ok = false := by rw [T3'.out]; simp [hk0, hx0]
              subst q1
              subst hx0
              clear T3' eS'
              go_wp2
              go_quiet (fail)
              go_wp2
              refine bodyPost_ret (results_tmp3 rfl _ _ _) rfl ?_
              exact ⟨by rw [BK.out]; rfl, nq, rfl⟩
            · have q1 : ok = true := by rw [T3'.out]; simp [show 0 < x by omega]
              subst q1
              have ix0 : (0 : Int) < (x : Int) := by omega
              have XX : Hid (decide (0 < x) = true) := by show _ = _; simpa using show 0 < x by omega
              clear T3' eS' hx0
              go_wp2
              go_quiet (fail)
              go_wp2
              refine bodyPost_ret (results_tmp3 rfl _ _ _) rfl ?_
              exact ⟨by rw [BK.out, XX.out]; rfl, nq, rfl⟩
        · have T := TM hx1
          have ix : ¬ ((x : Int) < 128) := by omega
          have T' : Hid (nat (9 - (k + 1)) l (k + 1) ac = (N, S, ok)) := T.symm
          clear TE TM T hx hx1
          go_wp2
          go_round
          case rel => exact ⟨k + 1, ac, by omega, by omega, ⟨L3.out, T'.out⟩, rfl, by go_num⟩
          case measure => simp [intOf]; omega
      · have T := HA.out.2
        rw [nat_off (by rw [← hE.out]; exact hlt)] at T
        simp only [Prod.mk.injEq] at T
        obtain ⟨rfl, rfl, rfl⟩ := T
        clear HA
        first
          | (have j1 : ¬ ((k : Int) < (n : Int)) := by omega
             go_wp2
             refine bodyPost_ret (results_tmp3 rfl _ _ _) rfl ?_
             exact ⟨rfl, F0.out⟩)
          | (have j1 : ¬ ((k : Int) < 9) := by omega
             go_wp2
             refine bodyPost_ret (results_tmp3 rfl _ _ _) rfl ?_
             exact ⟨rfl, F0.out⟩)
end Go.Proofs.YtppibcambhmomaaDoor
namespace Go.Proofs.YtppibcambhmomaaDoor
set_option maxRecDepth 20000
set_option linter.unusedVariables false
set_option linter.unusedSimpArgs false
def valL : List Nat → Nat
  | [] => 0
  | x :: l => x % 128 + 128 * valL l
theorem valL_snoc (l : List Nat) (x : Nat) : valL (l ++ [x]) = valL l + x % 128 * 128 ^ l.length := by
  induction l with
  | nil => simp [valL]
  | cons y l ih =>
    simp only [List.cons_append, valL, ih, List.length_cons, Nat.pow_succ]
    rw [Nat.mul_add, ← Nat.add_assoc, Nat.mul_comm (128 ^ l.length) 128, Nat.mul_left_comm]
theorem valL_lt (l : List Nat) : valL l < 128 ^ l.length := by
  induction l with
  | nil => simp [valL]
  | cons y l ih =>
    simp only [valL, List.length_cons, Nat.pow_succ]
    have := Nat.mod_lt y (show 0 < 128 by omega)
    omega
/- where the bytes ahead all have more behind them -/
theorem nat_go {l : List Nat} : ∀ k, k ≤ 9 → k ≤ l.length → (∀ i, i < k → 128 ≤ l.getD i 0) → nat 9 l 0 0 = nat (9 - k) l k (valL (l.take k))
  | 0, _, _, _ => by simp [valL]
  | k + 1, h9, hl, hm => by
    rw [nat_go k (by omega) (by omega) (fun i hi => hm i (by omega)), nat_more (by omega) (by omega) (by have := hm k (by omega); omega), take_succ_getD (by omega), valL_snoc, List.length_take, Nat.min_eq_left (by omega)]
theorem nat_fin {l : List Nat} {k : Nat} (h9 : k < 9) (hl : k < l.length) (hm : ∀ i, i < k → 128 ≤ l.getD i 0) (hx : l.getD k 0 < 128) : nat 9 l 0 0 = (valL (l.take (k + 1)), k + 1, decide (k = 0) || decide (0 < l.getD k 0)) := by
  rw [nat_go k (by omega) (by omega) hm, nat_end h9 hl hx, take_succ_getD hl, valL_snoc, List.length_take, Nat.min_eq_left (by omega)]
theorem nat_stop {l : List Nat} {k : Nat} (h9 : k ≤ 9) (hl : k ≤ l.length) (hm : ∀ i, i < k → 128 ≤ l.getD i 0) (h : ¬ (k < l.length ∧ k < 9)) : nat 9 l 0 0 = (0, 0, false) := by
  rw [nat_go k h9 hl hm, nat_off h]
theorem valL_pos : ∀ (A : List Nat) (x : Nat), 0 < x → x < 128 → 0 < valL (A ++ [x])
  | [], x, h, h2 => by simp [valL]; omega
  | y :: A, x, h, h2 => by have := valL_pos A x h h2; simp only [List.cons_append, valL]; omega
theorem enc_val : ∀ (A : List Nat) (x : Nat), (∀ y ∈ A, 128 ≤ y ∧ y < 256) → x < 128 → (A = [] ∨ 0 < x) → enc (valL (A ++ [x])) = A ++ [x]
  | [], x, _, hx, _ => by simp only [List.nil_append, valL]; rw [show x % 128 + 128 * 0 = x by omega, enc_lt hx]
  | y :: A, x, hA, hx, h => by
    have h0 : 0 < x := h.resolve_left (by simp)
    have h1 := valL_pos A x h0 hx
    have h2 := hA y (by simp)
    simp only [List.cons_append, valL]
    rw [enc_ge (by omega), show (y % 128 + 128 * valL (A ++ [x])) / 128 = valL (A ++ [x]) by omega, enc_val A x (fun z hz => hA z (by simp [hz])) hx (.inr h0), show (y % 128 + 128 * valL (A ++ [x])) % 128 + 128 = y by omega]
theorem enc_val_ne {A : List Nat} {x : Nat} (hA : A ≠ []) (hx : x = 0) : enc (valL (A ++ [x])) ≠ A ++ [x] := by
  subst hx
  intro e
  have h1 : valL (A ++ [0]) < 128 ^ A.length := by rw [valL_snoc]; simpa using valL_lt A
  have h2 : A.length = (A.length - 1) + 1 := by have := List.length_pos_iff.2 hA; omega
  rw [h2] at h1
  have h3 := enc_len _ _ h1
  have h4 := congrArg List.length e
  simp at h4
  omega
theorem enc_read {l : List Nat} {k : Nat} (hb : ∀ x ∈ l, x < 256) (hl : k < l.length) (hm : ∀ i, i < k → 128 ≤ l.getD i 0) (hx : l.getD k 0 < 128) : decide (enc (valL (l.take (k + 1))) = l.take (k + 1)) = (decide (k = 0) || decide (0 < l.getD k 0)) := by
  have e := take_succ_getD hl
  have hA : ∀ y ∈ l.take k, 128 ≤ y ∧ y < 256 := by
    intro y hy
    refine ⟨?_, hb y (List.mem_of_mem_take hy)⟩
    obtain ⟨i, hi, rfl⟩ := List.mem_iff_getElem.1 hy
    have h1 : i < k := by simp at hi; omega
    have h2 := hm i h1
    rw [List.getElem_take]
    simpa [List.getD, show i < l.length by omega] using h2
  rw [e]
  by_cases h : k = 0 ∨ 0 < l.getD k 0
  · rw [enc_val (l.take k) _ hA hx (h.imp (fun h0 => by subst h0; rfl) id)]
    rw [decide_eq_true rfl]
    rcases h with h | h
    · rw [decide_eq_true h]; rfl
    · rw [decide_eq_true h, Bool.or_true]
  · have h0 : k ≠ 0 := fun h1 => h (.inl h1)
    have h1 : l.getD k 0 = 0 := by have : ¬ 0 < l.getD k 0 := fun h2 => h (.inr h2); omega
    have h2 := enc_val_ne (A := l.take k) (x := l.getD k 0) (by intro e2; have h3 := congrArg List.length e2; rw [List.length_take, List.length_nil] at h3; omega) h1
    rw [decide_eq_false h2, decide_eq_false h0, h1]
    rfl
end Go.Proofs.YtppibcambhmomaaDoor
