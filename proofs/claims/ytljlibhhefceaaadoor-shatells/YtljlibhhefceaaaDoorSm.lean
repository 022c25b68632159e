/- The law ShaCuts walked: for all bytes and numbers it returns true, and changes nothing that was there. -/
import Derived.Test.YtljlibhhefceaaaDoorSl
import Derived.ChangeKeysEq
namespace Go.Proofs.YtljlibhhefceaaaDoor
open Go.ChangeShapes Go.WideShapes Go.ChangeAt Go.RowKit
set_option linter.unusedVariables false
set_option linter.unusedSimpArgs false
theorem mod_fit (x N : Int) (hN : 0 < N) (hM : N ≤ 140737488351233) : ∃ (t : Int) (i : Nat), Int.tmod x N = t ∧ IntKind.i64.wrap t = t ∧ IntKind.i64.wrap (t + N) = t + N ∧ Int.tmod (t + N) N = (i : Int) ∧ (i : Int) < N ∧ IntKind.i64.wrap (i : Int) = (i : Int) := by
  have h1 : Int.tmod x N < N := by have := Int.tmod_lt_of_pos x hN; omega
  have h2 : -N < Int.tmod x N := by
    have h3 := Int.tmod_lt_of_pos (-x) hN
    rw [Int.neg_tmod] at h3
    omega
  have h4 : 0 ≤ Int.tmod x N + N := by omega
  have h5 : 0 ≤ Int.tmod (Int.tmod x N + N) N := Int.tmod_nonneg _ h4
  have h6 : Int.tmod (Int.tmod x N + N) N < N := Int.tmod_lt_of_pos _ hN
  refine ⟨_, (Int.tmod (Int.tmod x N + N) N).toNat, rfl, ?_, ?_, ?_, ?_, ?_⟩
  · rw [IntKind.wrap_i64]; omega
  · rw [IntKind.wrap_i64]; omega
  · omega
  · omega
  · rw [IntKind.wrap_i64]; omega
theorem part_cs (d : List Nat) (j : Nat) (hj : j < d.length) (w : World) : (part 5 (cs .u8 d) (j * 1)).run Tryd.prog w = .ok (.int .u8 ((d.getD j 0 : Nat) : Int)) w := by
  have h2 : (cs .u8 d)[j]? = some (.int .u8 ((d.getD j 0 : Nat) : Int)) := by simp [cs, wv, List.getD, hj]
  simp [part, go_sem, h2]
theorem eqItems_same (d : List Nat) (w : World) : ∀ is : List Nat, (∀ j ∈ is, j < d.length) → (Op.eqItems 9999 5 1 (cs .u8 d) (cs .u8 d) is).run Tryd.prog w = .ok true w
  | [], _ => by simp [Op.eqItems]
  | j :: is, h => by
    have hj := h j (by simp)
    have ih := eqItems_same d w is (fun x hx => h x (by simp [hx]))
    have e : (Op.equalIn 9999 5 (.int .u8 ((d.getD j 0 : Nat) : Int)) (.int .u8 ((d.getD j 0 : Nat) : Int))).run Tryd.prog w = .ok true w := by
      rw [run_equalIn_int w 9998 5 .u8 .u8 _ _ Tryd.underlying5]
      simp
    simp only [Op.eqItems, Sem.run_bind, part_cs d j hj w, Result.andThen_ok, e, Bool.not_true, Bool.false_eq_true, if_false]
    exact ih
theorem eq_same (d : List Nat) (hd : d.length = 32) (w : World) : (Op.equalIn 10000 25 (.agg (cs .u8 d)) (.agg (cs .u8 d))).run Tryd.prog w = .ok true w := by
  obtain ⟨i, hi, _⟩ := info_parts info5
  have h := run_equalIn_array (P := Tryd.prog) w 9999 (cs .u8 d) (cs .u8 d) Tryd.underlying25 hi
  have c : Tryd.prog.cellsOf 5 = 1 := cells5
  rw [c] at h
  rw [h]
  exact eqItems_same d w _ (fun j hj => by rw [hd]; simpa using hj)
theorem cut3 {l : List Nat} {n lo hi : Nat} (hn : n = l.length) (h1 : lo ≤ hi) (h2 : hi ≤ n) : [] ++ l.take lo ++ (l.drop lo).take (hi - lo) ++ (l.drop hi).take (n - hi) = l := by
  have e1 : (l.drop hi).take (n - hi) = l.drop hi := List.take_of_length_le (by simp; omega)
  have e2 : l.take lo ++ (l.drop lo).take (hi - lo) = l.take hi := by
    have := List.take_add (l := l) (i := lo) (j := hi - lo)
    rw [← this]
    congr 1
    omega
  rw [e1, List.nil_append, e2, List.take_append_drop]
theorem slice_mid {w : World} {a : Option Addr} {n m lo hi : Nat} {l : List Nat} (h : Sln w a n l) (h1 : lo ≤ hi) (h2 : hi ≤ n) (h3 : hi ≤ m) : Sln w (if m = lo then a else a.map (·.add lo)) (hi - lo) ((l.drop lo).take (hi - lo)) := by
  have e := h.len
  refine ⟨by simp; omega, fun x hx => h.lt x (List.mem_of_mem_drop (List.mem_of_mem_take hx)), by have := h.sli.2.1; simp; omega, ?_⟩
  by_cases h0 : hi = lo
  · exact .inl (by rw [h0]; simp)
  · right
    have hl0 : l ≠ [] := by intro hh; rw [hh] at e; simp at e; omega
    obtain ⟨b, off, rfl, hl, hr⟩ := h.sli.2.2.resolve_left hl0
    rw [if_neg (by omega)]
    refine ⟨b, off + lo, by simp [Addr.add], hl, fun i hi' => ?_⟩
    have hi2 : i < hi - lo := by simp at hi'; omega
    have h2 := hr (lo + i) (by omega)
    have h3 : ((l.drop lo).take (hi - lo)).getD i 0 = l.getD (lo + i) 0 := by simp [List.getD, hi2]
    rw [h3, Nat.add_assoc]
    exact h2
theorem slice_to {w : World} {a : Option Addr} {n lo : Nat} {l : List Nat} (h : Sln w a n l) (h1 : lo ≤ n) : Sln w a lo (l.take lo) := by
  have e := h.len
  refine ⟨by simp; omega, fun x hx => h.lt x (List.mem_of_mem_take hx), by have := h.sli.2.1; simp; omega, ?_⟩
  by_cases h0 : l = []
  · exact .inl (by rw [h0]; simp)
  · right
    obtain ⟨b, off, rfl, hl, hr⟩ := h.sli.2.2.resolve_left h0
    refine ⟨b, off, rfl, hl, fun i hi' => ?_⟩
    have hi2 : i < lo := by simp at hi'; omega
    have h2 := hr i (by omega)
    have h3 : (l.take lo).getD i 0 = l.getD i 0 := by simp [List.getD, hi2]
    rw [h3]
    exact h2
/- a hash of the call's own -/
structure Hd (w wr : World) (g : Nat) (A : List Nat) : Prop where
  hs : HS wr g A
  bel : Below w.heap.size w wr
  ge : w.heap.size ≤ g
theorem Hd.below {w a b : World} {g : Nat} {A : List Nat} (h : Hd w a g A) (hb : Below a.heap.size a b) : Hd w b g A := ⟨h.hs.below hb, h.bel.trans (hb.mono h.bel.size), h.ge⟩
theorem new_h {w wr : World} (h : Hid (Below w.heap.size w wr)) : Calls Tryd.prog 13 #[] wr fun e w' => ∃ g, e = .returned (.pointer (some ⟨g, 0, none⟩)) ∧ Hid (Hd w w' g [] ∧ wr.heap.size ≤ g ∧ Below wr.heap.size wr w') := by
  refine (new_n wr).mono ?_
  rintro e w' ⟨g, rfl, H⟩
  exact ⟨g, rfl, ⟨H.out.2.1, h.out.trans (H.out.2.2.mono h.out.size), Nat.le_trans h.out.size H.out.1⟩, H.out.1, H.out.2.2⟩
theorem write_h {w wr : World} {g n k : Nat} {A l : List Nat} {a : Option Addr} (h : Hid (Hd w wr g A)) (hS : Hid (Sln w a n l)) (hk : n ≤ k) (hKs : Hid (Kst w)) (h0 : Hid (0 < w.heap.size)) (hl : Hid (A.length + l.length < 4611686018427387904)) :
    Calls Tryd.prog 14 #[.pointer (some ⟨g, 0, none⟩), .slice a n k] wr fun e w' => e = .returned (.tuple #[]) ∧ Hid (Hd w w' g (A ++ l) ∧ But g wr w') := by
  have hg := h.out.ge
  have h00 := h0.out
  refine (write_n wr g n k A l a h.out.hs (hS.out.below h.out.bel) hk (hS.out.apart hg) (hKs.out.below h.out.bel h00) (Nat.lt_of_lt_of_le h00 h.out.bel.size) (by omega) hl).mono ?_
  rintro e w' ⟨rfl, H⟩
  exact ⟨rfl, ⟨H.out.1, But.below h.out.bel H.out.2 hg h.out.bel.size, hg⟩, H.out.2⟩
theorem hsum_h {w wr : World} {g : Nat} {A : List Nat} (h : Hid (Hd w wr g A)) (hKs : Hid (Kst w)) (h0 : Hid (0 < w.heap.size)) (hl : Hid (A.length < 4611686018427387904)) :
    Calls Tryd.prog 15 #[.pointer (some ⟨g, 0, none⟩)] wr fun e w' => ∃ d, e = .returned (.agg (cs .u8 d)) ∧ Hid (d = Gs.sum A ∧ Below wr.heap.size wr w') := by
  have h00 := h0.out
  exact hsum_n wr g A h.out.hs (hKs.out.below h.out.bel h00) (Nat.lt_of_lt_of_le h00 h.out.bel.size) hl
theorem sum_h {w wr : World} {n k : Nat} {l : List Nat} {a : Option Addr} (h : Hid (Below w.heap.size w wr)) (hS : Hid (Sln w a n l)) (hk : n ≤ k) (hKs : Hid (Kst w)) (h0 : Hid (0 < w.heap.size)) :
    Calls Tryd.prog 10 #[.slice a n k] wr fun e w' => ∃ d, e = .returned (.agg (cs .u8 d)) ∧ Hid (d = Gs.sum l ∧ Below wr.heap.size wr w') :=
  sum_n (hS.out.below h.out) hk (hKs.out.below h.out h0.out) (Nat.lt_of_lt_of_le h0.out h.out.size)
set_option maxRecDepth 20000 in
set_option maxHeartbeats 2000000 in
theorem cuts_n (w : World) (n k : Nat) (a : Option Addr) (l : List Nat) (one two : Int) (hS : Hid (Sln w a n l)) (hk : n ≤ k) (hk2 : k ≤ 140737488351232) (hKs : Hid (Kst w)) (h0 : Hid (0 < w.heap.size)) :
    Calls Tryd.prog 6 #[.slice a n k, .int .i64 one, .int .i64 two] w fun e w' => e = .returned (.bool true) ∧ Hid (Below w.heap.size w w') := by
  obtain ⟨N, hN⟩ : ∃ N : Int, (n : Int) + 1 = N := ⟨_, rfl⟩
  have hN0 : 0 < N := by omega
  have hN1 : ¬ (N = 0) := by omega
  obtain ⟨t1, i, a1, a2, a3, a4, a5, a6⟩ := mod_fit one N hN0 (by omega)
  obtain ⟨t2, j, b1, b2, b3, b4, b5, b6⟩ := mod_fit two N hN0 (by omega)
  have wN : IntKind.i64.wrap N = N := by rw [IntKind.wrap_i64]; omega
  have HI : Hid (i ≤ n ∧ j ≤ n) := ⟨by omega, by omega⟩
  go_enter Tryd.func6, Tryd.ntmps6
  go_upto_region 4 with (go_at_call 8; refine (alive_n _ hKs h0).mono ?_; rintro e w1 ⟨rfl, H1⟩)
  go_quiet (fail)
  clear a1 a2 a3 a4 b1 b2 b3 b4 wN a6 b6 hN1
  generalize hw2 : w1.drewN nq = w2
  have B2 : Hid (Below w.heap.size w w2) := by rw [← hw2]; exact below_drewN H1.out nq
  clear hw2 H1
  have hk3 : (k : Int) ≤ 140737488351232 := by omega
  clear hk2
  by_cases hij : i ≤ j
  · have g0 : ¬ ((j : Int) < (i : Int)) := by omega
    have q1 : (0 : Int) ≤ (i : Int) := by omega
    have q2 : (i : Int) ≤ (j : Int) := by omega
    have q3 : (j : Int) ≤ (n : Int) := by have := HI.out; omega
    have q4 : (j : Int) ≤ (k : Int) := by have := HI.out; omega
    have q5 : (i : Int) ≤ (k : Int) := by have := HI.out; omega
    obtain ⟨x2, X2⟩ : ∃ x, Hid ((if j = i then a else Option.map (fun x => x.add i) a) = x) := ⟨_, rfl⟩
    obtain ⟨x3, X3⟩ : ∃ x, Hid ((if k = j then a else Option.map (fun x => x.add j) a) = x) := ⟨_, rfl⟩
    have x2' := X2.out
    have x3' := X3.out
    have hln : Hid (n = l.length) := hS.out.len
    have Y1 : Hid (Sln w a i (l.take i)) := slice_to hS.out (by have := HI.out; omega)
    have Y2 : Hid (Sln w x2 (j - i) ((l.drop i).take (j - i))) := by
      have := slice_mid (m := j) hS.out (show i ≤ j by omega) (by have := HI.out; omega) (Nat.le_refl _)
      rw [show (if j = i then a else a.map (·.add i)) = x2 from X2.out] at this
      exact this
    have Y3 : Hid (Sln w x3 (n - j) ((l.drop j).take (n - j))) := by
      have := slice_mid (m := k) hS.out (show j ≤ n by have := HI.out; omega) (Nat.le_refl _) hk
      rw [show (if k = j then a else a.map (·.add j)) = x3 from X3.out] at this
      exact this
    obtain ⟨p1, P1⟩ : ∃ p, Hid (l.take i = p) := ⟨_, rfl⟩
    obtain ⟨p2, P2⟩ : ∃ p, Hid ((l.drop i).take (j - i) = p) := ⟨_, rfl⟩
    obtain ⟨p3, P3⟩ : ∃ p, Hid ((l.drop j).take (n - j) = p) := ⟨_, rfl⟩
    have PE : Hid ([] ++ p1 ++ p2 ++ p3 = l) := by rw [← P1.out, ← P2.out, ← P3.out]; exact cut3 hln.out (by omega) (by have := HI.out; omega)
    rw [P1.out] at Y1
    rw [P2.out] at Y2
    rw [P3.out] at Y3
    have PL : Hid (p1.length + p2.length + p3.length < 4611686018427387904) := by
      have h8 := congrArg List.length PE.out
      simp only [List.length_append, List.length_nil] at h8
      have h9 : p1.length + p2.length + p3.length < 4611686018427387904 := by have := hln.out; omega
      exact h9
    have E1 : Hid (([] : List Nat).length + p1.length < 4611686018427387904) := by
      have h9 : ([] : List Nat).length + p1.length < 4611686018427387904 := by have := PL.out; simp; omega
      exact h9
    have E1' : Hid (([] ++ p1 : List Nat).length < 4611686018427387904) := by
      have h9 : ([] ++ p1 : List Nat).length < 4611686018427387904 := by have := PL.out; simp; omega
      exact h9
    have E2 : Hid (([] ++ p1 : List Nat).length + p2.length < 4611686018427387904) := by
      have h9 : ([] ++ p1 : List Nat).length + p2.length < 4611686018427387904 := by have := PL.out; simp; omega
      exact h9
    have E3 : Hid (([] ++ p1 ++ p2 : List Nat).length + p3.length < 4611686018427387904) := by
      have h9 : ([] ++ p1 ++ p2 : List Nat).length + p3.length < 4611686018427387904 := by have := PL.out; simp; omega
      exact h9
    have E4 : Hid (l.length < 4611686018427387904) := by
      have h9 : l.length < 4611686018427387904 := by have := hln.out; omega
      exact h9
    go_upto_region 11 with (first
      | (go_at_call 13; refine (new_h B2).mono ?_; rintro e w3 ⟨g, rfl, H3⟩
         have D3 : Hid (Hd w w3 g []) := H3.out.1)
      | (go_at_call 14; refine (write_h D3 Y1 (Nat.le_refl _) hKs h0 E1).mono ?_; rintro e w4 ⟨rfl, H4⟩
         have D4 : Hid (Hd w w4 g ([] ++ p1)) := H4.out.1))
    go_upto_region 12 with (go_at_call 15; refine (hsum_h D4 hKs h0 E1').mono ?_; rintro e w5 ⟨d5, rfl, H5⟩)
    have D5 : Hid (Hd w w5 g ([] ++ p1)) := D4.out.below H5.out.2
    go_upto_region 13 with (go_at_call 14; refine (write_h D5 Y2 (Nat.le_refl _) hKs h0 E2).mono ?_; rintro e w6 ⟨rfl, H6⟩)
    have D6 : Hid (Hd w w6 g ([] ++ p1 ++ p2)) := H6.out.1
    go_upto_region 14 with (go_at_call 14; refine (write_h D6 Y3 (by have := HI.out; omega) hKs h0 E3).mono ?_; rintro e w7 ⟨rfl, H7⟩)
    have D7 : Hid (Hd w w7 g l) := by have := H7.out.1; rw [PE.out] at this; exact this
    have B7 : Hid (Below w.heap.size w w7) := D7.out.bel
    obtain ⟨sm, SM⟩ : ∃ sm, Hid (Gs.sum l = sm) := ⟨_, rfl⟩
    clear Y1 Y2 Y3 x2' x3'
    have EQ : ∀ w', (Op.equalIn 10000 25 (.agg (cs .u8 sm)) (.agg (cs .u8 sm))).run Tryd.prog w' = .ok true w' := eq_same sm (by rw [← SM.out]; exact sum_length _)
    go_wp2_with (first
      | (go_at_call 15; refine (hsum_h D7 hKs h0 E4).mono ?_; rintro e w8 ⟨d8, rfl, H8⟩
         have s8 : sm = d8 := SM.out.symm.trans H8.out.1.symm
         subst s8
         have D8 : Hid (Hd w w8 g l) := D7.out.below H8.out.2
         have B8 : Hid (Below w.heap.size w w8) := D8.out.bel)
      | (go_at_call 10; refine (sum_h B8 hS hk hKs h0).mono ?_; rintro e w9 ⟨d9, rfl, H9⟩
         have s9 : sm = d9 := SM.out.symm.trans H9.out.1.symm
         subst s9
         have D9 : Hid (Hd w w9 g l) := D8.out.below H9.out.2
         have E9 : Hid (HS w9 g l) := D9.out.hs))
    refine (len_n w9 g l E9 n hln.out).mono ?_
    rintro e w10 ⟨rfl, h10⟩
    rw [h10]
    clear h10 EQ
    go_wp2
    go_ret
    exact ⟨rfl, D9.out.bel⟩
  · have g0 : (j : Int) < (i : Int) := by omega
    have q1 : (0 : Int) ≤ (j : Int) := by omega
    have q2 : (j : Int) ≤ (i : Int) := by omega
    have q3 : (i : Int) ≤ (n : Int) := by have := HI.out; omega
    have q4 : (i : Int) ≤ (k : Int) := by have := HI.out; omega
    have q5 : (j : Int) ≤ (k : Int) := by have := HI.out; omega
    obtain ⟨x2, X2⟩ : ∃ x, Hid ((if i = j then a else Option.map (fun x => x.add j) a) = x) := ⟨_, rfl⟩
    obtain ⟨x3, X3⟩ : ∃ x, Hid ((if k = i then a else Option.map (fun x => x.add i) a) = x) := ⟨_, rfl⟩
    have x2' := X2.out
    have x2b : Option.map (fun x => x.add j) a = x2 := by have := X2.out; rw [if_neg (by omega)] at this; exact this
    have x3' := X3.out
    have hln : Hid (n = l.length) := hS.out.len
    have Y1 : Hid (Sln w a j (l.take j)) := slice_to hS.out (by have := HI.out; omega)
    have Y2 : Hid (Sln w x2 (i - j) ((l.drop j).take (i - j))) := by
      have := slice_mid (m := i) hS.out (show j ≤ i by omega) (by have := HI.out; omega) (Nat.le_refl _)
      rw [show (if i = j then a else a.map (·.add j)) = x2 from X2.out] at this
      exact this
    have Y3 : Hid (Sln w x3 (n - i) ((l.drop i).take (n - i))) := by
      have := slice_mid (m := k) hS.out (show i ≤ n by have := HI.out; omega) (Nat.le_refl _) hk
      rw [show (if k = i then a else a.map (·.add i)) = x3 from X3.out] at this
      exact this
    obtain ⟨p1, P1⟩ : ∃ p, Hid (l.take j = p) := ⟨_, rfl⟩
    obtain ⟨p2, P2⟩ : ∃ p, Hid ((l.drop j).take (i - j) = p) := ⟨_, rfl⟩
    obtain ⟨p3, P3⟩ : ∃ p, Hid ((l.drop i).take (n - i) = p) := ⟨_, rfl⟩
    have PE : Hid ([] ++ p1 ++ p2 ++ p3 = l) := by rw [← P1.out, ← P2.out, ← P3.out]; exact cut3 hln.out (by omega) (by have := HI.out; omega)
    rw [P1.out] at Y1
    rw [P2.out] at Y2
    rw [P3.out] at Y3
    have PL : Hid (p1.length + p2.length + p3.length < 4611686018427387904) := by
      have h8 := congrArg List.length PE.out
      simp only [List.length_append, List.length_nil] at h8
      have h9 : p1.length + p2.length + p3.length < 4611686018427387904 := by have := hln.out; omega
      exact h9
    have E1 : Hid (([] : List Nat).length + p1.length < 4611686018427387904) := by
      have h9 : ([] : List Nat).length + p1.length < 4611686018427387904 := by have := PL.out; simp; omega
      exact h9
    have E1' : Hid (([] ++ p1 : List Nat).length < 4611686018427387904) := by
      have h9 : ([] ++ p1 : List Nat).length < 4611686018427387904 := by have := PL.out; simp; omega
      exact h9
    have E2 : Hid (([] ++ p1 : List Nat).length + p2.length < 4611686018427387904) := by
      have h9 : ([] ++ p1 : List Nat).length + p2.length < 4611686018427387904 := by have := PL.out; simp; omega
      exact h9
    have E3 : Hid (([] ++ p1 ++ p2 : List Nat).length + p3.length < 4611686018427387904) := by
      have h9 : ([] ++ p1 ++ p2 : List Nat).length + p3.length < 4611686018427387904 := by have := PL.out; simp; omega
      exact h9
    have E4 : Hid (l.length < 4611686018427387904) := by
      have h9 : l.length < 4611686018427387904 := by have := hln.out; omega
      exact h9
    go_upto_region 11 with (first
      | (go_at_call 13; refine (new_h B2).mono ?_; rintro e w3 ⟨g, rfl, H3⟩
         have D3 : Hid (Hd w w3 g []) := H3.out.1)
      | (go_at_call 14; refine (write_h D3 Y1 (Nat.le_refl _) hKs h0 E1).mono ?_; rintro e w4 ⟨rfl, H4⟩
         have D4 : Hid (Hd w w4 g ([] ++ p1)) := H4.out.1))
    go_upto_region 12 with (go_at_call 15; refine (hsum_h D4 hKs h0 E1').mono ?_; rintro e w5 ⟨d5, rfl, H5⟩)
    have D5 : Hid (Hd w w5 g ([] ++ p1)) := D4.out.below H5.out.2
    go_upto_region 13 with (go_at_call 14; refine (write_h D5 Y2 (Nat.le_refl _) hKs h0 E2).mono ?_; rintro e w6 ⟨rfl, H6⟩)
    have D6 : Hid (Hd w w6 g ([] ++ p1 ++ p2)) := H6.out.1
    go_upto_region 14 with (go_at_call 14; refine (write_h D6 Y3 (by have := HI.out; omega) hKs h0 E3).mono ?_; rintro e w7 ⟨rfl, H7⟩)
    have D7 : Hid (Hd w w7 g l) := by have := H7.out.1; rw [PE.out] at this; exact this
    have B7 : Hid (Below w.heap.size w w7) := D7.out.bel
    obtain ⟨sm, SM⟩ : ∃ sm, Hid (Gs.sum l = sm) := ⟨_, rfl⟩
    clear Y1 Y2 Y3 x2' x3'
    clear x2b
    have EQ : ∀ w', (Op.equalIn 10000 25 (.agg (cs .u8 sm)) (.agg (cs .u8 sm))).run Tryd.prog w' = .ok true w' := eq_same sm (by rw [← SM.out]; exact sum_length _)
    go_wp2_with (first
      | (go_at_call 15; refine (hsum_h D7 hKs h0 E4).mono ?_; rintro e w8 ⟨d8, rfl, H8⟩
         have s8 : sm = d8 := SM.out.symm.trans H8.out.1.symm
         subst s8
         have D8 : Hid (Hd w w8 g l) := D7.out.below H8.out.2
         have B8 : Hid (Below w.heap.size w w8) := D8.out.bel)
      | (go_at_call 10; refine (sum_h B8 hS hk hKs h0).mono ?_; rintro e w9 ⟨d9, rfl, H9⟩
         have s9 : sm = d9 := SM.out.symm.trans H9.out.1.symm
         subst s9
         have D9 : Hid (Hd w w9 g l) := D8.out.below H9.out.2
         have E9 : Hid (HS w9 g l) := D9.out.hs))
    refine (len_n w9 g l E9 n hln.out).mono ?_
    rintro e w10 ⟨rfl, h10⟩
    rw [h10]
    clear h10 EQ
    go_wp2
    go_ret
    exact ⟨rfl, D9.out.bel⟩
end Go.Proofs.YtljlibhhefceaaaDoor
