/- Numbers as groups of seven bits, on plain numbers: enc n, the bytes of n; nat l, what stands at the beginning of l. -/
import Derived.Test.YtppibcambhmomaaDoorMh
import Derived.Test.YtppibcambhmomaaDoorProg
import Derived.Test.YtppibcambhmomaaDoorMVs
import Derived.WalkLawsBesides
import Derived.Laws.Cover3
import Derived.Lib.SlBytesConst
import Derived.Deep.CutBlock
import Derived.Deep.DeepCutAuto
import Derived.Test.YtppibcambhmomaaDoorMBa
namespace Go.Proofs.YtppibcambhmomaaDoor
set_option maxRecDepth 20000
set_option linter.unusedVariables false
set_option linter.unusedSimpArgs false
def enc (n : Nat) : List Nat := if n < 128 then [n] else (n % 128 + 128) :: enc (n / 128)
termination_by n
decreasing_by omega
theorem enc_lt {n : Nat} (h : n < 128) : enc n = [n] := by rw [enc, if_pos h]
theorem enc_ge {n : Nat} (h : 128 ≤ n) : enc n = (n % 128 + 128) :: enc (n / 128) := by rw [enc, if_neg (by omega)]
theorem enc_ind {p : Nat → Prop} (h0 : ∀ n, n < 128 → p n) (h1 : ∀ n, 128 ≤ n → p (n / 128) → p n) (n : Nat) : p n := by
  induction n using Nat.strongRecOn with
  | ind n ih =>
    by_cases h : n < 128
    · exact h0 n h
    · exact h1 n (by omega) (ih _ (by omega))
theorem enc_bytes (n : Nat) : ∀ x ∈ enc n, x < 256 := by
  refine enc_ind (p := fun n => ∀ x ∈ enc n, x < 256) (fun n h => ?_) (fun n h ih => ?_) n
  · rw [enc_lt h]
    simp
    omega
  · rw [enc_ge h]
    intro x hx
    rcases List.mem_cons.1 hx with rfl | hx
    · omega
    · exact ih x hx
theorem enc_pos (n : Nat) : 1 ≤ (enc n).length := by
  by_cases h : n < 128
  · rw [enc_lt h]; simp
  · rw [enc_ge (by omega)]; simp
theorem enc_len : ∀ (k n : Nat), n < 128 ^ (k + 1) → (enc n).length ≤ k + 1
  | 0, n, h => by rw [enc_lt (by simpa using h)]; simp
  | k + 1, n, h => by
    by_cases h1 : n < 128
    · rw [enc_lt h1]; simp
    · rw [enc_ge (by omega)]
      have := enc_len k (n / 128) (by rw [Nat.pow_succ] at h; exact Nat.div_lt_of_lt_mul (by rw [Nat.mul_comm]; exact h))
      simp only [List.length_cons]
      omega
theorem enc_nine {n : Nat} (h : n < 9223372036854775808) : (enc n).length ≤ 9 := enc_len 8 n (by simpa using h)
theorem enc_mono : ∀ (a b : Nat), a ≤ b → (enc a).length ≤ (enc b).length := by
  intro a b
  refine enc_ind (p := fun b => ∀ a, a ≤ b → (enc a).length ≤ (enc b).length) (fun b h a hab => ?_) (fun b h ih a hab => ?_) b a
  · rw [enc_lt h, enc_lt (by omega)]; simp
  · by_cases h1 : a < 128
    · rw [enc_lt h1]
      exact enc_pos b
    · rw [enc_ge (by omega), enc_ge h]
      have := ih (a / 128) (Nat.div_le_div_right hab)
      simp only [List.length_cons]
      omega
/-- No number's bytes begin another one's. -/
theorem enc_free (a : Nat) : ∀ (b : Nat) (t u : List Nat), enc a ++ t = enc b ++ u → a = b := by
  refine enc_ind (p := fun a => ∀ (b : Nat) (t u : List Nat), enc a ++ t = enc b ++ u → a = b) (fun a h b t u e => ?_) (fun a h ih b t u e => ?_) a
  · rw [enc_lt h] at e
    by_cases h1 : b < 128
    · rw [enc_lt h1] at e
      simp at e
      exact e.1
    · rw [enc_ge (by omega)] at e
      simp at e
      omega
  · rw [enc_ge h] at e
    by_cases h1 : b < 128
    · rw [enc_lt h1] at e
      simp at e
      omega
    · rw [enc_ge (n := b) (by omega)] at e
      simp only [List.cons_append, List.cons.injEq] at e
      have := ih _ _ _ e.2
      omega
theorem enc_take {a b m : Nat} (hm : m = min (enc a).length (enc b).length) (e : (enc a).take m = (enc b).take m) : a = b := by
  rcases Nat.le_total (enc a).length (enc b).length with h | h
  · rw [Nat.min_eq_left h] at hm
    subst hm
    rw [List.take_of_length_le (Nat.le_refl _)] at e
    refine enc_free a b ((enc b).drop (enc a).length) [] ?_
    rw [List.append_nil]
    conv => lhs; lhs; rw [e]
    exact List.take_append_drop ..
  · rw [Nat.min_eq_right h] at hm
    subst hm
    rw [List.take_of_length_le (Nat.le_refl (enc b).length)] at e
    refine enc_free a b [] ((enc a).drop (enc b).length) ?_
    rw [List.append_nil]
    conv => rhs; lhs; rw [← e]
    exact (List.take_append_drop ..).symm
/-- All bytes but the last say that there are more. -/
theorem enc_more (n : Nat) : ∀ k, k < (enc n).length → ∀ x ∈ (enc n).take k, 128 ≤ x := by
  refine enc_ind (p := fun n => ∀ k, k < (enc n).length → ∀ x ∈ (enc n).take k, 128 ≤ x) (fun n h k hk x hx => ?_) (fun n h ih k hk x hx => ?_) n
  · rw [enc_lt h] at hk hx
    simp at hk
    subst hk
    simp at hx
  · rw [enc_ge h] at hk hx
    cases k with
    | zero => simp at hx
    | succ k =>
      simp only [List.take_succ_cons, List.mem_cons] at hx
      rcases hx with rfl | hx
      · omega
      · exact ih k (by simpa using hk) x hx
/-- The walk of the reader's loop: at place i, with acc so far, f places still allowed. -/
def nat : Nat → List Nat → Nat → Nat → Nat × Nat × Bool
  | 0, _, _, _ => (0, 0, false)
  | f + 1, l, i, acc => if i < l.length then
      (if l.getD i 0 < 128 then (acc + l.getD i 0 % 128 * 128 ^ i, i + 1, decide (i = 0) || decide (0 < l.getD i 0)) else nat f l (i + 1) (acc + l.getD i 0 % 128 * 128 ^ i))
    else (0, 0, false)
theorem nat_none : ∀ (f : Nat) (l : List Nat) (i acc : Nat), (∀ x ∈ l, 128 ≤ x) → nat f l i acc = (0, 0, false)
  | 0, l, i, acc, h => rfl
  | f + 1, l, i, acc, h => by
    rw [nat]
    split
    · rename_i hi
      have := h _ (List.getElem_mem hi)
      rw [List.getD_eq_getElem?_getD, List.getElem?_eq_getElem hi, Option.getD_some, if_neg (by omega)]
      exact nat_none f l _ _ h
    · rfl
theorem nat_all : ∀ (f m : Nat) (p t : List Nat) (acc : Nat), (enc m).length ≤ f → (p = [] ∨ 0 < m) → nat f (p ++ (enc m ++ t)) p.length acc = (acc + m * 128 ^ p.length, p.length + (enc m).length, true)
  | 0, m, p, t, acc, h, hp => by have := enc_pos m; omega
  | f + 1, m, p, t, acc, h, hp => by
    have hl : p.length < (p ++ (enc m ++ t)).length := by
      have := enc_pos m
      simp only [List.length_append]
      omega
    rw [nat, if_pos hl]
    by_cases h1 : m < 128
    · have g : (p ++ (enc m ++ t)).getD p.length 0 = m := by rw [enc_lt h1]; simp
      rw [g, if_pos h1, Nat.mod_eq_of_lt h1, enc_lt h1]
      rcases hp with rfl | hp
      · simp
      · simp [hp]
    · have g : (p ++ (enc m ++ t)).getD p.length 0 = m % 128 + 128 := by rw [enc_ge (by omega)]; simp
      rw [g, if_neg (by omega), enc_ge (by omega)]
      have ih := nat_all f (m / 128) (p ++ [m % 128 + 128]) t (acc + m % 128 * 128 ^ p.length) (by rw [enc_ge (by omega)] at h; simpa using h) (.inr (by omega))
      simp only [List.append_assoc, List.singleton_append, List.length_append, List.length_singleton, List.cons_append, List.nil_append] at ih ⊢
      rw [show (m % 128 + 128) % 128 = m % 128 by omega, ih]
      have e : m * 128 ^ p.length = m % 128 * 128 ^ p.length + m / 128 * 128 ^ (p.length + 1) := by
        rw [Nat.pow_succ, ← Nat.mul_assoc, Nat.mul_right_comm, ← Nat.add_mul]
        congr 1
        omega
      rw [e]
      simp only [List.length_cons, Prod.mk.injEq, and_true]
      omega
/-- What is written is read. -/
theorem nat_enc {n : Nat} (h : n < 9223372036854775808) (t : List Nat) : nat 9 (enc n ++ t) 0 0 = (n, (enc n).length, true) := by
  have := nat_all 9 n [] t 0 (enc_nine h) (.inl rfl)
  simpa using this
/-- What is cut is not. -/
theorem nat_cut (n k : Nat) (hk : k < (enc n).length) : nat 9 ((enc n).take k) 0 0 = (0, 0, false) := nat_none 9 _ 0 0 (enc_more n k hk)
/-- The greatest number that so many bytes can give. -/
theorem nat_bound : ∀ (f : Nat) (l : List Nat) (i acc : Nat), acc < 128 ^ i → (nat f l i acc).2.2 = true → (nat f l i acc).1 < 128 ^ (i + f) ∧ i < (nat f l i acc).2.1 ∧ (nat f l i acc).2.1 ≤ l.length ∧ (nat f l i acc).2.1 ≤ i + f
  | 0, l, i, acc, h, e => by simp [nat] at e
  | f + 1, l, i, acc, h, e => by
    rw [nat] at e ⊢
    have hacc : acc + l.getD i 0 % 128 * 128 ^ i < 128 ^ (i + 1) := by
      rw [Nat.pow_succ]
      have : l.getD i 0 % 128 * 128 ^ i ≤ 127 * 128 ^ i := Nat.mul_le_mul_right _ (by omega)
      omega
    by_cases hi : i < l.length
    · rw [if_pos hi] at e ⊢
      by_cases hb : l.getD i 0 < 128
      · rw [if_pos hb] at e ⊢
        refine ⟨Nat.lt_of_lt_of_le hacc (Nat.pow_le_pow_right (by omega) (by omega)), ?_, ?_, ?_⟩ <;> simp <;> omega
      · rw [if_neg hb] at e ⊢
        have := nat_bound f l (i + 1) _ hacc e
        rw [show i + 1 + f = i + (f + 1) by omega] at this
        exact ⟨this.1, by omega, this.2.2.1, this.2.2.2⟩
    · rw [if_neg hi] at e
      simp at e
end Go.Proofs.YtppibcambhmomaaDoor
namespace Go.Proofs.YtppibcambhmomaaDoor
set_option maxRecDepth 20000
open Go.ChangeShapes Go.WideShapes Go.ChangeAt Go.RowKit
set_option linter.unusedVariables false
set_option linter.unusedSimpArgs false
theorem ofInt_i64 (a : Nat) (ha : a < 9223372036854775808) : (BitVec.ofInt 64 (a : Int)).toNat = a := by
  rw [BitVec.toNat_ofInt]
  omega
theorem i64_and_nat (a b : Nat) (ha : a < 9223372036854775808) (hb : b < 9223372036854775808) : bits .and .i64 (a : Int) (b : Int) = ((a &&& b : Nat) : Int) := by
  have h : a &&& b ≤ a := Nat.and_le_left
  show IntKind.i64.wrap ((BitVec.ofInt 64 (a : Int) &&& BitVec.ofInt 64 (b : Int)).toNat : Int) = _
  rw [BitVec.toNat_and, ofInt_i64 a ha, ofInt_i64 b hb, IntKind.wrap_i64]
  omega
theorem and127 (n : Nat) : n &&& 127 = n % 128 := Nat.and_two_pow_sub_one_eq_mod n 7
theorem i64_and127 (a : Nat) (ha : a < 9223372036854775808) : bits .and .i64 (a : Int) 127 = ((a % 128 : Nat) : Int) := by
  have := i64_and_nat a 127 ha (by omega)
  rw [and127] at this
  exact this
theorem u8_or128 (a : Nat) (ha : a < 128) : bits .or .u8 (a : Int) 128 = ((a + 128 : Nat) : Int) := by
  have := u8_or_nat a 128 (by omega) (by omega)
  have e : 128 ||| a = 128 + a := nat_join 7 128 a (by rfl) (by omega)
  rw [Nat.or_comm, e, Nat.add_comm] at this
  exact this
/- while a number's bytes are appended -/
structure Ap (w wr : World) (B : Nat) (a0 a : Option Addr) (n c : Nat) (P : List Nat) : Prop where
  own : Own wr B a n c P
  gr : w.grownBy wr (blkOf a0)
  new : New w a0 a
theorem Ap.byte {w wr : World} {B : Nat} {a0 a : Option Addr} {n c : Nat} {P : List Nat} {x : Nat} (h : Ap w wr B a0 a n c P) (hx : x < 256) (hb : n + 1 ≤ 140737488352256) (hB : B ≤ w.heap.size) :
    ∃ a' c' w', (Builtin.append_ #[27, 27] 27 #[.slice a n c,.slice (some ⟨wr.heap.size, 0, none⟩) 1 1]).run Tryd.prog (wr.alloc (.cells #[.int .u8 (x : Int)] 5)) = .ok (.slice a' (n + 1) c') w' ∧ Ap w w' B a0 a' (n + 1) c' (P ++ [x]) := by
  obtain ⟨a', c', w', h1, h2, h3, h4⟩ := app_byte h.own hx hb (Nat.le_trans hB h.gr.size)
  exact ⟨a', c', w', h1, h2, grown_trans h.gr h3 h.new, h.new.trans h4 h.gr.size⟩
set_option maxHeartbeats 1000000 in
theorem appendNumber_n {w : World} {B : Nat} {a : Option Addr} {n c N : Nat} {L : List Nat} (hO : Hid (Own w B a n c L)) (hN : Hid (N < 9223372036854775808)) (hB : Hid (B ≤ w.heap.size)) (hb : Hid (n + 9 ≤ 140737488352256)) :
    Calls Tryd.prog 55 #[.slice a n c,.int .i64 (N : Int)] w fun e w' => ∃ a' n' c', e = .returned (.slice a' n' c') ∧ Hid (Ap w w' B a a' n' c' (L ++ enc N)) := by
  obtain ⟨T, HT⟩ : ∃ T, Hid (T = L ++ enc N) := ⟨_, rfl⟩
  have TL : Hid (T.length ≤ 140737488352256) := by
    have h1 := enc_nine hN.out
    have h2 := hO.out.len
    have h3 := hb.out
    rw [HT.out, Hid, List.length_append]
    omega
  have A0 : Hid (Ap w w B a a n c L ∧ L ++ enc N = T) := ⟨⟨hO.out, World.grownBy.refl _ _, fun q hq => .inl hq⟩, HT.out.symm⟩
  rw [← HT.out]
  have hN2 := hN.out
  clear HT hO hb
  go_enter Tryd.func55, Tryd.ntmps55
  go_wp2
  go_loopw [0, 1] (fun tv tn wr => ∃ (a1 : Option Addr) (n1 c1 m : Nat) (P : List Nat), tv = .slice a1 n1 c1 ∧ tn = .int .i64 m ∧ m < 9223372036854775808 ∧ Hid (Ap w wr B a a1 n1 c1 P ∧ P ++ enc m = T)) (fun _ tn _ => (intOf tn).toNat)
  case atStart => exact ⟨a, n, c, N, L, rfl, rfl, hN2, A0.out⟩
  case round =>
    obtain ⟨a1, n1, c1, m, P, rfl, rfl, hm, H1⟩ := hrel
    have hn1 : n1 + 1 ≤ 140737488352256 := by
      have h1 := H1.out.1.own.len
      have h2 := congrArg List.length H1.out.2
      have h3 := TL.out
      have h4 := enc_pos m
      rw [List.length_append] at h2
      omega
    by_cases hlt : m < 128
    · obtain ⟨a2, c2, w2, hrun, h2⟩ := H1.out.1.byte (x := m) (by omega) hn1 hB.out
      have AP : Hid ((Builtin.append_ #[27, 27] 27 #[.slice a1 n1 c1,.slice (some ⟨wr.heap.size, 0, none⟩) 1 1]).run Tryd.prog (wr.alloc (.cells #[.int .u8 (m : Int)] 5)) = .ok (.slice a2 (n1 + 1) c2) w2) := hrun
      have F : Hid (Ap w w2 B a a2 (n1 + 1) c2 T) := by
        have e := H1.out.2
        rw [enc_lt hlt] at e
        rw [← e]
        exact h2
      have i1 : ¬ (127 < (m : Int)) := by omega
      clear hrun h2 H1
      go_wp2_with (at_builtin; refine wpList_app (by rfl) (.tmp 16) (.tmp 19) (by rfl) (by rfl) (by rfl) (by rfl) AP ?_)
      go_ret
      exact ⟨a2, n1 + 1, c2, rfl, F.out⟩
    · obtain ⟨y, Hy⟩ : ∃ y, Hid (m % 128 = y) := ⟨_, rfl⟩
      have hy : y < 128 := by rw [← Hy.out]; omega
      obtain ⟨x, Hx⟩ : ∃ x, Hid (x = y + 128) := ⟨_, rfl⟩
      have hx : x < 256 := by rw [Hx.out]; omega
      have e1 : bits .and .i64 (m : Int) 127 = (y : Int) := by rw [i64_and127 m hm, Hy.out]
      have e2 : bits .or .u8 (y : Int) 128 = (x : Int) := by rw [u8_or128 y hy, Hx.out]
      obtain ⟨a2, c2, w2, hrun, h2⟩ := H1.out.1.byte (x := x) hx hn1 hB.out
      have AP : Hid ((Builtin.append_ #[27, 27] 27 #[.slice a1 n1 c1,.slice (some ⟨wr.heap.size, 0, none⟩) 1 1]).run Tryd.prog (wr.alloc (.cells #[.int .u8 (x : Int)] 5)) = .ok (.slice a2 (n1 + 1) c2) w2) := hrun
      have F : Hid (Ap w w2 B a a2 (n1 + 1) c2 (P ++ [x]) ∧ P ++ [x] ++ enc (m / 128) = T) := by
        refine ⟨h2, ?_⟩
        have e := H1.out.2
        rw [enc_ge (by omega), Hy.out] at e
        rw [← e, Hx.out]
        simp
      have i1 : 127 < (m : Int) := by omega
      clear hrun h2 H1
      go_wp2_with (at_builtin; refine wpList_app (by rfl) (.tmp 7) (.tmp 12) (by rfl) (by rfl) (by rfl) (by rfl) AP ?_)
      go_roundw
      case rel => exact ⟨a2, n1 + 1, c2, m / 128, P ++ [x], rfl, by go_num, by omega, F.out⟩
      case measure => simp [intOf]; omega
end Go.Proofs.YtppibcambhmomaaDoor
namespace Go.Proofs.YtppibcambhmomaaDoor
set_option maxRecDepth 20000
open Go.ChangeShapes Go.WideShapes Go.ChangeAt Go.RowKit
set_option linter.unusedVariables false
set_option linter.unusedSimpArgs false
/- a Writer at block g: what was put lies in a row of its own -/
structure Wri (w : World) (g B : Nat) (a : Option Addr) (n c : Nat) (L : List Nat) (s : Bool) : Prop where
  blk : w.heap[g]? = some (.cells #[.slice a n c, .bool s] 96 (0, 0))
  own : Own w B a n c L
  ne : blkOf a ≠ some g
/- all but block g and the row's is as it was -/
structure Wfr (w w' : World) (g : Nat) (a : Option Addr) : Prop where
  os : w'.os = w.os
  tape : w'.tape = w.tape
  output : w'.output = w.output
  size : w.heap.size ≤ w'.heap.size
  block : ∀ k, k < w.heap.size → k ≠ g → some k ≠ blkOf a → w'.heap[k]? = w.heap[k]?
theorem Wfr.refl (w : World) (g : Nat) (a : Option Addr) : Wfr w w g a := ⟨rfl, rfl, rfl, Nat.le_refl _, fun _ _ _ _ => rfl⟩
theorem Wfr.trans {w w1 w2 : World} {g : Nat} {a a1 : Option Addr} (h : Wfr w w1 g a) (h1 : Wfr w1 w2 g a1) (hn : New w a a1) : Wfr w w2 g a :=
  ⟨h1.os.trans h.os, h1.tape.trans h.tape, h1.output.trans h.output, Nat.le_trans h.size h1.size, fun k hk hne hne2 => (h1.block k (Nat.lt_of_lt_of_le hk h.size) hne (fun e => by
    rcases hn k e.symm with h2 | h2
    · exact hne2 h2.symm
    · omega)).trans (h.block k hk hne hne2)⟩
theorem Wfr.grown {w w' : World} {a : Option Addr} (g : Nat) (h : w.grownBy w' (blkOf a)) : Wfr w w' g a := ⟨h.os, h.tape, h.output, h.size, fun k hk _ h2 => h.block k hk h2⟩
theorem Wfr.setCell {w w' : World} {g : Nat} {a : Option Addr} (h : Wfr w w' g a) (i : Nat) (v : Value) : Wfr w (w'.setCell ⟨g, i, none⟩ v) g a :=
  ⟨h.os, h.tape, h.output, by simp [World.setCell]; exact h.size, fun k hk h1 h2 => (Below.heap_setCell _ _ _ _ h1).trans (h.block k hk h1 h2)⟩
theorem Wfr.below {w0 w w' : World} {B g : Nat} {a : Option Addr} (hb : Below B w0 w) (h : Wfr w w' g a) (hg : B ≤ g) (ha : ∀ q, blkOf a = some q → B ≤ q) (hB : B ≤ w.heap.size) : Below B w0 w' :=
  hb.trans ⟨h.os, h.tape, h.output, h.size, fun k hk => h.block k (by omega) (by omega) (fun e => by have := ha k e.symm; omega)⟩
theorem Wfr.sln {w w' : World} {g : Nat} {a a2 : Option Addr} {m : Nat} {l : List Nat} (h : Wfr w w' g a) (hS : Sln w a2 m l) (hap : ∀ b off, l ≠ [] → a2 = some ⟨b, off, none⟩ → b ≠ g ∧ some b ≠ blkOf a) : Sln w' a2 m l := by
  refine ⟨hS.len, hS.sli.1, hS.sli.2.1, ?_⟩
  by_cases hl : l = []
  · exact .inl hl
  · obtain ⟨b, off, h1, h2, h3⟩ := hS.sli.2.2.resolve_left hl
    obtain ⟨h4, h5⟩ := hap b off hl h1
    exact .inr ⟨b, off, h1, Nat.lt_of_lt_of_le h2 h.size, fun i hi => (World.cell?_of_block (w := w) (a := ⟨b, off + i, none⟩) (h.block b h2 h4 h5)).trans (h3 i hi)⟩
theorem Wri.lt {w : World} {g B : Nat} {a : Option Addr} {n c : Nat} {L : List Nat} {s : Bool} (h : Wri w g B a n c L s) : g < w.heap.size := (Array.getElem?_eq_some_iff.1 h.blk).1
theorem Wri.c0 {w : World} {g B : Nat} {a : Option Addr} {n c : Nat} {L : List Nat} {s : Bool} (h : Wri w g B a n c L s) : w.cell? ⟨g, 0, none⟩ = some (.slice a n c) := by
  have := h.blk
  simp [World.cell?, this]
theorem Wri.c1 {w : World} {g B : Nat} {a : Option Addr} {n c : Nat} {L : List Nat} {s : Bool} (h : Wri w g B a n c L s) : w.cell? ⟨g, 1, none⟩ = some (.bool s) := by
  have := h.blk
  simp [World.cell?, this]
theorem fz {w : World} {g t : Nat} {cs : Array Value} (h : w.heap[g]? = some (.cells cs t (0, 0))) (i : Nat) : w.frozen? ⟨g, i, none⟩ = false := by
  simp [World.frozen?, h]
theorem set_blk {w : World} {g t : Nat} {cs : Array Value} (h : w.heap[g]? = some (.cells cs t (0, 0))) (i : Nat) (v : Value) : (w.setCell ⟨g, i, none⟩ v).heap[g]? = some (.cells (cs.setIfInBounds i v) t (0, 0)) := by
  rw [setCell_eq_setRow w g i cs t (0, 0) v h]
  exact setRow_heap w g cs (cs.setIfInBounds i v) t (0, 0) h
/- the row put behind: what the writer is when the new row is stored -/
theorem Wri.put {w w1 : World} {g B : Nat} {a a1 : Option Addr} {n c n1 c1 : Nat} {L L1 : List Nat} {s : Bool} (h : Wri w g B a n c L s) (gr : w.grownBy w1 (blkOf a)) (new : New w a a1) (own : Own w1 B a1 n1 c1 L1) :
    w1.heap[g]? = some (.cells #[.slice a n c, .bool s] 96 (0, 0)) ∧ Wri (w1.setCell ⟨g, 0, none⟩ (.slice a1 n1 c1)) g B a1 n1 c1 L1 s ∧ Wfr w (w1.setCell ⟨g, 0, none⟩ (.slice a1 n1 c1)) g a := by
  have hb : w1.heap[g]? = some (.cells #[.slice a n c, .bool s] 96 (0, 0)) := (gr.block g h.lt (fun e => h.ne e.symm)).trans h.blk
  have hne : blkOf a1 ≠ some g := by
    intro e
    rcases new g e with h1 | h1
    · exact h.ne h1
    · have := h.lt; omega
  refine ⟨hb, ⟨?_, ?_, hne⟩, (Wfr.grown g gr).setCell 0 _⟩
  · rw [set_blk hb]; rfl
  · exact own.block (fun q hq => Below.heap_setCell _ _ _ _ (fun e => hne (by rw [hq, e])))
theorem Wri.bad {w : World} {g B : Nat} {a : Option Addr} {n c : Nat} {L : List Nat} {s : Bool} (h : Wri w g B a n c L s) : Wri (w.setCell ⟨g, 1, none⟩ (.bool true)) g B a n c L true ∧ Wfr w (w.setCell ⟨g, 1, none⟩ (.bool true)) g a := by
  refine ⟨⟨by rw [set_blk h.blk]; rfl, h.own.block (fun q hq => Below.heap_setCell _ _ _ _ (fun e => h.ne (by rw [hq, e]))), h.ne⟩, (Wfr.refl w g a).setCell 1 _⟩
/- a Writer elsewhere stays -/
theorem Wri.wfr {w w' : World} {g B g2 : Nat} {a a2 : Option Addr} {n c : Nat} {L : List Nat} {s : Bool} (h : Wri w g B a n c L s) (f : Wfr w w' g2 a2) (h1 : g ≠ g2) (h2 : some g ≠ blkOf a2) (h3 : blkOf a ≠ some g2) (h4 : ∀ q, blkOf a = some q → some q ≠ blkOf a2) : Wri w' g B a n c L s :=
  ⟨(f.block g h.lt h1 h2).trans h.blk, h.own.block (fun q hq => f.block q (h.own.ge q hq).2 (fun e => h3 (by rw [hq, e])) (h4 q hq)), h.ne⟩
theorem newWriter_n (w : World) : Calls Tryd.prog 39 #[] w fun e w' => e = .returned (.pointer (some ⟨w.heap.size, 0, none⟩)) ∧ Hid (w' = w.alloc (.cells #[.slice none 0 0, .bool false] 96)) := by
  go_enter Tryd.func39, Tryd.ntmps39
  go_wp2
  go_ret
  exact ⟨rfl, rfl⟩
theorem Wri.new (w : World) (B : Nat) : Wri (w.alloc (.cells #[.slice none 0 0, .bool false] 96)) w.heap.size B none 0 0 [] false := ⟨heap_alloc_new w _, Own.nil _ _, by simp [blkOf]⟩
set_option maxHeartbeats 1000000 in
theorem num_n {w : World} {g B : Nat} {a : Option Addr} {n c N : Nat} {L : List Nat} {s : Bool} (hW : Hid (Wri w g B a n c L s)) (hN : N < 9223372036854775808) (hB : Hid (B ≤ w.heap.size)) (hb : Hid (n + 9 ≤ 140737488352256)) :
    Calls Tryd.prog 35 #[.pointer (some ⟨g, 0, none⟩),.int .i64 (N : Int)] w fun e w' => ∃ a' n' c', e = .returned (.tuple #[]) ∧ Hid (Wri w' g B a' n' c' (L ++ enc N) s ∧ Wfr w w' g a ∧ New w a a') := by
  have c0 := hW.out.c0
  have O := hW.out.own
  have OO : Hid (Own w B a n c L) := O
  have i1 : ¬ ((N : Int) < 0) := by omega
  have HN : Hid (N < 9223372036854775808) := hN
  clear O
  go_enter Tryd.func35, Tryd.ntmps35
  go_wp2_with (first
    | (go_at_call 55; refine (appendNumber_n OO HN hB hb).mono ?_; rintro e w1 ⟨a1, n1, c1, rfl, H1⟩
       obtain ⟨hb1, hw2, hf2⟩ := hW.out.put H1.out.gr H1.out.new H1.out.own
       have c01 : w1.cell? ⟨g, 0, none⟩ = some (.slice a n c) := by simp [World.cell?, hb1]
       have f01 : w1.frozen? ⟨g, 0, none⟩ = false := fz hb1 0
       have W2 : Hid (Wri (w1.setCell ⟨g, 0, none⟩ (.slice a1 n1 c1)) g B a1 n1 c1 (L ++ enc N) s ∧ Wfr w (w1.setCell ⟨g, 0, none⟩ (.slice a1 n1 c1)) g a ∧ New w a a1) := ⟨hw2, hf2, H1.out.new⟩
       clear hb1 hw2 hf2 H1))
  go_end0
  exact ⟨a1, n1, c1, rfl, W2.out⟩
theorem num_bad {w : World} {g B : Nat} {a : Option Addr} {n c : Nat} {L : List Nat} {s : Bool} {z : Int} (hW : Hid (Wri w g B a n c L s)) (hz : (Lit.int .i64 z).wf = true) (hn : z < 0) :
    Calls Tryd.prog 35 #[.pointer (some ⟨g, 0, none⟩),.int .i64 z] w fun e w' => e = .returned (.tuple #[]) ∧ Hid (Wri w' g B a n c L true ∧ Wfr w w' g a) := by
  have c1 := hW.out.c1
  have f1 := fz hW.out.blk 1
  have W2 : Hid (Wri (w.setCell ⟨g, 1, none⟩ (.bool true)) g B a n c L true ∧ Wfr w (w.setCell ⟨g, 1, none⟩ (.bool true)) g a) := hW.out.bad
  have bz := bounds_i64 hz
  go_enter Tryd.func35, Tryd.ntmps35
  go_wp2
  refine bodyPost_ret (results_none rfl _ _ _) rfl ?_
  exact ⟨rfl, W2.out⟩
theorem wpList_app9 {ops : Array Oper} {rest : List Oper} {o : Oper} {a : Act} {Q : Exit → Act → World → Prop} {w w' : World} {v v1 v2 : Value} (hgd : o.guard = none) (s x : Operand)
    (ho : o.op = .call { callee := .builtin .append, args := #[s, x], argTypes := #[27, 9] }) (hty : o.type = 27) (hs : a.eval s = v1) (hx : a.eval x = v2) (hrun : Hid ((Builtin.append_ #[27, 9] 27 #[v1, v2]).run Tryd.prog w = .ok v w'))
    (h : wpList Tryd.prog ops Q rest (a.put o.dst v) w') : wpList Tryd.prog ops Q (o :: rest) a w := by
  refine wpList_plain hgd fun K hK => ?_
  have hr := hrun.out
  unfold Oper.wp
  simp [execOp, ho, resolve, invoke, builtin, hs, hx, hty, hr, Result.andThen]
  exact hK _ _ h
set_option maxHeartbeats 1000000 in
theorem text_n {w : World} {g B : Nat} {a : Option Addr} {n c m : Nat} {L l : List Nat} {s : Bool} (hW : Hid (Wri w g B a n c L s)) (hl : Hid (∀ x ∈ l, x < 256)) (hm : Hid (m = l.length)) (hB : Hid (B ≤ w.heap.size)) (hb : Hid (n + m + 18 ≤ 140737488352256)) :
    Calls Tryd.prog 71 #[.pointer (some ⟨g, 0, none⟩),.string (spell l)] w fun e w' => ∃ a' n' c', e = .returned (.tuple #[]) ∧ Hid (Wri w' g B a' n' c' (L ++ (enc m ++ l)) s ∧ Wfr w w' g a ∧ New w a a') := by
  have es : (spell l).size = m := by rw [spell_size]; exact hm.out.symm
  have hm2 : m < 9223372036854775808 := by have := hb.out; omega
  have hb1 : Hid (n + 9 ≤ 140737488352256) := by have := hb.out; show _ ≤ _; omega
  go_enter Tryd.func71, Tryd.ntmps71
  go_wp2_with (first
    | (go_at_call 35; refine (num_n hW hm2 hB hb1).mono ?_; rintro e w1 ⟨a1, n1, c1, rfl, H1⟩
       have hn1 : n1 = n + (enc m).length := by rw [H1.out.1.own.len, List.length_append, hW.out.own.len]
       have he := enc_nine hm2
       obtain ⟨a2, c2, w2, hrun, own2, gr2, new2⟩ := app_anys H1.out.1.own hl.out hm.out (by have := hb.out; omega) (Nat.le_trans hB.out H1.out.2.1.size)
       have c0 := H1.out.1.c0
       have AP : Hid ((Builtin.append_ #[27, 9] 27 #[.slice a1 n1 c1,.string (spell l)]).run Tryd.prog w1 = .ok (.slice a2 (n1 + m) c2) w2) := hrun
       obtain ⟨hb2, hw2, hf2⟩ := H1.out.1.put gr2 new2 own2
       have c01 : w2.cell? ⟨g, 0, none⟩ = some (.slice a1 n1 c1) := by simp [World.cell?, hb2]
       have f01 : w2.frozen? ⟨g, 0, none⟩ = false := fz hb2 0
       rw [List.append_assoc] at hw2
       have W2 : Hid (Wri (w2.setCell ⟨g, 0, none⟩ (.slice a2 (n1 + m) c2)) g B a2 (n1 + m) c2 (L ++ (enc m ++ l)) s ∧ Wfr w (w2.setCell ⟨g, 0, none⟩ (.slice a2 (n1 + m) c2)) g a ∧ New w a a2) := ⟨hw2, H1.out.2.1.trans hf2 H1.out.2.2, H1.out.2.2.trans new2 H1.out.2.1.size⟩
       clear hrun own2 gr2 new2 hb2 hw2 hf2 hn1 he)
    | (at_builtin; refine wpList_app9 (by rfl) (.tmp 12) (.tmp 13) (by rfl) (by rfl) (by rfl) (by rfl) AP ?_))
  go_end0
  exact ⟨a2, n1 + m, c2, rfl, W2.out⟩
set_option maxHeartbeats 1000000 in
theorem wbytes_n {w : World} {g B : Nat} {a : Option Addr} {n c : Nat} {L l : List Nat} {s : Bool} {ab : Option Addr} {m cb : Nat} (hW : Hid (Wri w g B a n c L s)) (hS : Hid (Sln w ab m l)) (hc : Hid (ab = none → cb = 0)) (hap : Hid (∀ b off, l ≠ [] → ab = some ⟨b, off, none⟩ → b ≠ g ∧ some b ≠ blkOf a)) (hB : Hid (B ≤ w.heap.size)) (hb : Hid (n + m + 18 ≤ 140737488352256)) :
    Calls Tryd.prog 37 #[.pointer (some ⟨g, 0, none⟩),.slice ab m cb] w fun e w' => ∃ a' n' c', e = .returned (.tuple #[]) ∧ Hid (Wri w' g B a' n' c' (L ++ (enc m ++ l)) s ∧ Wfr w w' g a ∧ New w a a') := by
  have hm2 : m < 9223372036854775808 := by have := hb.out; omega
  have hb1 : Hid (n + 9 ≤ 140737488352256) := by have := hb.out; show _ ≤ _; omega
  go_enter Tryd.func37, Tryd.ntmps37
  go_wp2_with (first
    | (go_at_call 35; refine (num_n hW hm2 hB hb1).mono ?_; rintro e w1 ⟨a1, n1, c1, rfl, H1⟩
       have hn1 : n1 = n + (enc m).length := by rw [H1.out.1.own.len, List.length_append, hW.out.own.len]
       have he := enc_nine hm2
       obtain ⟨a2, c2, w2, hrun, own2, gr2, new2⟩ := app_any H1.out.1.own (H1.out.2.1.sln hS.out hap.out) hc.out (by have := hb.out; omega) (Nat.le_trans hB.out H1.out.2.1.size)
       have c0 := H1.out.1.c0
       have AP : Hid ((Builtin.append_ #[27, 27] 27 #[.slice a1 n1 c1,.slice ab m cb]).run Tryd.prog w1 = .ok (.slice a2 (n1 + m) c2) w2) := hrun
       obtain ⟨hb2, hw2, hf2⟩ := H1.out.1.put gr2 new2 own2
       have c01 : w2.cell? ⟨g, 0, none⟩ = some (.slice a1 n1 c1) := by simp [World.cell?, hb2]
       have f01 : w2.frozen? ⟨g, 0, none⟩ = false := fz hb2 0
       rw [List.append_assoc] at hw2
       have W2 : Hid (Wri (w2.setCell ⟨g, 0, none⟩ (.slice a2 (n1 + m) c2)) g B a2 (n1 + m) c2 (L ++ (enc m ++ l)) s ∧ Wfr w (w2.setCell ⟨g, 0, none⟩ (.slice a2 (n1 + m) c2)) g a ∧ New w a a2) := ⟨hw2, H1.out.2.1.trans hf2 H1.out.2.2, H1.out.2.2.trans new2 H1.out.2.1.size⟩
       clear hrun own2 gr2 new2 hb2 hw2 hf2 hn1 he)
    | (at_builtin; refine wpList_app (by rfl) (.tmp 12) (.tmp 13) (by rfl) (by rfl) (by rfl) (by rfl) AP ?_))
  go_end0
  exact ⟨a2, n1 + m, c2, rfl, W2.out⟩
theorem eql_nil (w : World) (a : Option Addr) (n c : Nat) : (binOp .eql 27 (.slice a n c) (.slice none 0 0)).run Tryd.prog w = .ok (.bool a.isNone) w := by
  simp [binOp, run_equal_slice_nil w 27 5 a n c Tryd.underlying27]
/- bytes.Clone: the same bytes in new memory -/
set_option maxHeartbeats 1000000 in
theorem clone_n {w : World} {a : Option Addr} {n c : Nat} {l : List Nat} (hS : Hid (Sln w a n l)) (hc : Hid (a = none → c = 0)) :
    Calls Tryd.prog 48 #[.slice a n c] w fun e w' => ∃ a' c', e = .returned (.slice a' n c') ∧ Hid (Own w' w.heap.size a' n c' l ∧ Below w.heap.size w w') := by
  cases a with
  | none =>
    have hl : l = [] := by
      rcases hS.out.sli.2.2 with h | ⟨b, off, h, _⟩
      · exact h
      · simp at h
    have hn : n = 0 := by rw [hS.out.len, hl]; rfl
    subst hl hn
    have h0 : c = 0 := hc.out rfl
    subst h0
    have EQ := eql_nil w none 0 0
    rw [show (none : Option Addr).isNone = true from rfl] at EQ
    go_enter Tryd.func48, Tryd.ntmps48
    go_wp2
    go_ret
    exact ⟨none, 0, rfl, Own.nil _ _, Below.refl _ _⟩
  | some ad =>
    have O0 : Own (w.alloc (.cells #[] 5)) w.heap.size (some ⟨w.heap.size, 0, none⟩) 0 0 [] := ⟨rfl, World.ownsRow_made w #[] 0 (Nat.le_refl _) (by unfold maxLen; omega) (by simp), by simp⟩
    have m := hS.out.sli.2.1
    have e := hS.out.len
    have b1 : Below w.heap.size w (w.alloc (.cells #[] 5)) := (Below.refl _ _).alloc (Nat.le_refl _) _
    obtain ⟨a2, c2, w2, hrun, own2, gr2, new2⟩ := app_any (c2 := c) O0 (hS.out.below b1) (by simp) (by omega) (by simp)
    rw [Nat.zero_add] at hrun own2
    have AP : Hid ((Builtin.append_ #[27, 27] 27 #[.slice (some ⟨w.heap.size, 0, none⟩) 0 0,.slice (some ad) n c]).run Tryd.prog (w.alloc (.cells #[] 5)) = .ok (.slice a2 n c2) w2) := hrun
    have F : Hid (Own w2 w.heap.size a2 n c2 l ∧ Below w.heap.size w w2) := ⟨by simpa using own2, b1.grown gr2 (by simp) (fun k e => by simp [blkOf] at e; omega)⟩
    clear hrun own2 gr2 new2 b1 O0 m e
    have EQ := eql_nil w (some ad) n c
    rw [show (some ad : Option Addr).isNone = false from rfl] at EQ
    go_enter Tryd.func48, Tryd.ntmps48
    go_wp2_with (at_builtin; refine wpList_app (by rfl) (.tmp 5) (.tmp 6) (by rfl) (by rfl) (by rfl) (by rfl) AP ?_)
    go_ret
    exact ⟨a2, c2, rfl, F.out⟩
set_option maxHeartbeats 1000000 in
theorem done_n {w : World} {g B : Nat} {a : Option Addr} {n c : Nat} {L : List Nat} (hW : Hid (Wri w g B a n c L false)) (hb : Hid (n ≤ 140737488352256)) :
    Calls Tryd.prog 38 #[.pointer (some ⟨g, 0, none⟩)] w fun e w' => ∃ a' c', e = .returned (.tuple #[.slice a' n c', .nilIface]) ∧ Hid (Own w' w.heap.size a' n c' L ∧ Below w.heap.size w w') := by
  have c0 := hW.out.c0
  have c1 := hW.out.c1
  have S : Hid (Sln w a n L) := hW.out.own.sln hb.out
  have Z : Hid (a = none → c = 0) := hW.out.own.cap0
  go_enter Tryd.func38, Tryd.ntmps38
  go_wp2_with (go_at_call 48; refine (clone_n S Z).mono ?_; rintro e w1 ⟨a1, c1', rfl, H1⟩)
  go_ret2
  exact ⟨a1, c1', rfl, H1.out⟩
theorem done_bad {w : World} {g B : Nat} {M : Nat → Prop} {a : Option Addr} {n c : Nat} {L : List Nat} {E : Nat → Addr} (hW : Hid (Wri w g B a n c L true)) (hE : Hid (Sent w M E)) (hM : M 4) :
    Calls Tryd.prog 38 #[.pointer (some ⟨g, 0, none⟩)] w fun e w' => e = .returned (.tuple #[.slice none 0 0, .iface 142 (.pointer (some (E 4)))]) ∧ Hid (∃ k, w' = w.drewN k) := by
  have c0 := hW.out.c0
  have c1 := hW.out.c1
  have ce := hE.out.c 4 hM
  unfold er at ce
  go_enter Tryd.func38, Tryd.ntmps38
  go_wp2
  go_quiet (fail)
  go_wp2
  go_ret2
  exact ⟨rfl, nq, rfl⟩
end Go.Proofs.YtppibcambhmomaaDoor
namespace Go.Proofs.YtppibcambhmomaaDoor
set_option maxRecDepth 20000
set_option linter.unusedVariables false
set_option linter.unusedSimpArgs false
def stp (s x : Nat) : Nat := ((s ^^^ x) * 16777619) % 4294967296
def fnv (s : Nat) (l : List Nat) : Nat := l.foldl stp s
theorem fold_snoc {f : Nat → Nat → Nat} (l : List Nat) (s x : Nat) : (l ++ [x]).foldl f s = f (l.foldl f s) x := by simp
theorem fnv_snoc (l : List Nat) (s x : Nat) : fnv s (l ++ [x]) = stp (fnv s l) x := fold_snoc (f := stp) l s x
def fsum (l : List Nat) : Nat := fnv 2166136261 l
def be4 (s : Nat) : List Nat := [s / 16777216 % 256, s / 65536 % 256, s / 256 % 256, s % 256]
def sealL (l : List Nat) : List Nat := l ++ be4 (fsum l)
theorem stp_lt (s x : Nat) : stp s x < 4294967296 := Nat.mod_lt _ (by omega)
theorem fnv_lt (l : List Nat) : ∀ s, s < 4294967296 → fnv s l < 4294967296 := by
  induction l with
  | nil => exact fun s h => h
  | cons x t ih => exact fun s h => ih _ (stp_lt s x)
theorem fsum_lt (l : List Nat) : fsum l < 4294967296 := fnv_lt l _ (by omega)
theorem stp_back {s x : Nat} (hs : s < 4294967296) (hx : x < 4294967296) : (stp s x * 899433627) % 4294967296 = s ^^^ x := by
  have hb : s ^^^ x < 4294967296 := Nat.xor_lt_two_pow (n := 32) hs hx
  unfold stp
  generalize s ^^^ x = y at hb ⊢
  rw [Nat.mod_mul_mod, Nat.mul_assoc, show 16777619 * 899433627 = 3513497 * 4294967296 + 1 from rfl] 
  rw [Nat.mul_add, Nat.mul_one, ← Nat.mul_assoc, Nat.mul_add_mod_self_right, Nat.mod_eq_of_lt hb]
theorem xor_left {s t x : Nat} (h : s ^^^ x = t ^^^ x) : s = t := by
  have := congrArg (· ^^^ x) h
  simpa [Nat.xor_assoc] using this
theorem xor_right {s x y : Nat} (h : s ^^^ x = s ^^^ y) : x = y := by
  have := congrArg (s ^^^ ·) h
  simpa [← Nat.xor_assoc] using this
theorem stp_inj {s t x : Nat} (hs : s < 4294967296) (ht : t < 4294967296) (hx : x < 4294967296) (h : stp s x = stp t x) : s = t := by
  have a := stp_back hs hx
  rw [h, stp_back ht hx] at a
  exact (xor_left a).symm
theorem stp_two {s x y : Nat} (hs : s < 4294967296) (hx : x < 4294967296) (hy : y < 4294967296) (h : stp s x = stp s y) : x = y := by
  have a := stp_back hs hx
  rw [h, stp_back hs hy] at a
  exact (xor_right a).symm
theorem fnv_inj (l : List Nat) (hl : ∀ x ∈ l, x < 256) : ∀ s t, s < 4294967296 → t < 4294967296 → fnv s l = fnv t l → s = t := by
  induction l with
  | nil => exact fun s t _ _ h => h
  | cons x r ih =>
    intro s t hs ht h
    have hx := hl x (List.mem_cons_self ..)
    have := ih (fun y hy => hl y (List.mem_cons_of_mem _ hy)) (stp s x) (stp t x) (stp_lt ..) (stp_lt ..) h
    exact stp_inj hs ht (by omega) this
theorem fnv_set (l : List Nat) (hl : ∀ x ∈ l, x < 256) : ∀ (s i tb : Nat), s < 4294967296 → tb < 256 → i < l.length → fnv s (l.set i tb) = fnv s l → l.getD i 0 = tb := by
  induction l with
  | nil => intro s i tb _ _ hi; simp at hi
  | cons x r ih =>
    intro s i tb hs hto hi h
    have hx := hl x (List.mem_cons_self ..)
    have hr := fun y hy => hl y (List.mem_cons_of_mem x hy)
    cases i with
    | zero =>
      have := fnv_inj r hr (stp s tb) (stp s x) (stp_lt ..) (stp_lt ..) h
      have := stp_two hs (by omega) (by omega) this
      simp [this]
    | succ i =>
      have := ih hr (stp s x) i tb (stp_lt ..) hto (by simpa using hi) h
      simpa using this
theorem be4_inj {s t : Nat} (hs : s < 4294967296) (ht : t < 4294967296) (h : be4 s = be4 t) : s = t := by
  simp only [be4, List.cons.injEq, and_true] at h
  omega
theorem be4_len (s : Nat) : (be4 s).length = 4 := rfl
theorem be4_bytes (s : Nat) : ∀ x ∈ be4 s, x < 256 := by
  intro x hx
  simp only [be4, List.mem_cons, List.not_mem_nil, or_false] at hx
  omega
theorem seal_len (l : List Nat) : (sealL l).length = l.length + 4 := by simp [sealL, be4]
theorem seal_bytes {l : List Nat} (hl : ∀ x ∈ l, x < 256) : ∀ x ∈ sealL l, x < 256 := by
  intro x hx
  rcases List.mem_append.1 hx with h | h
  · exact hl x h
  · exact be4_bytes _ x h
theorem seal_take (l : List Nat) : (sealL l).take ((sealL l).length - 4) = l := by
  rw [seal_len, Nat.add_sub_cancel]
  simp [sealL]
/-- One byte changed: the sum is no longer right. -/
theorem seal_slip {l : List Nat} (hl : ∀ x ∈ l, x < 256) {i tb : Nat} (hi : i < (sealL l).length) (hto : tb < 256) (hne : (sealL l).getD i 0 ≠ tb) :
    sealL (((sealL l).set i tb).take (((sealL l).set i tb).length - 4)) ≠ (sealL l).set i tb := by
  intro h
  rw [List.length_set, seal_len, Nat.add_sub_cancel] at h
  by_cases h1 : i < l.length
  · have e1 : (sealL l).set i tb = l.set i tb ++ be4 (fsum l) := by rw [sealL, List.set_append_left _ _ h1]
    have e2 : (l.set i tb ++ be4 (fsum l)).take l.length = l.set i tb := by rw [List.take_append_of_le_length (by simp)]; exact List.take_of_length_le (by simp)
    rw [e1, e2, sealL] at h
    have := be4_inj (fsum_lt _) (fsum_lt _) (List.append_cancel_left h)
    have := fnv_set l hl 2166136261 i tb (by omega) hto h1 this
    apply hne
    rw [sealL, List.getD_eq_getElem?_getD, List.getElem?_append_left h1, ← List.getD_eq_getElem?_getD]
    exact this
  · have e1 : (sealL l).set i tb = l ++ (be4 (fsum l)).set (i - l.length) tb := by rw [sealL, List.set_append_right _ _ (by omega)]
    have e2 : (l ++ (be4 (fsum l)).set (i - l.length) tb).take l.length = l := by simp
    rw [e1, e2] at h
    rw [sealL] at h
    have h2 := List.append_cancel_left h
    apply hne
    have hi' : i - l.length < (be4 (fsum l)).length := by rw [seal_len] at hi; rw [be4_len]; omega
    have := congrArg (fun q => q.getD (i - l.length) 0) h2
    rw [sealL, List.getD_eq_getElem?_getD, List.getElem?_append_right (by omega), ← List.getD_eq_getElem?_getD, this]
    simp [List.getD_eq_getElem?_getD, hi']
end Go.Proofs.YtppibcambhmomaaDoor
namespace Go.Proofs.YtppibcambhmomaaDoor
set_option maxRecDepth 20000
open Go.ChangeShapes Go.WideShapes Go.ChangeAt Go.RowKit
set_option linter.unusedVariables false
set_option linter.unusedSimpArgs false
set_option maxHeartbeats 1000000 in
theorem sum_n {w : World} {a : Option Addr} {n c : Nat} {l : List Nat} (h : Hid (Sln w a n l)) :
    Calls Tryd.prog 43 #[.slice a n c] w fun e w' => e = .returned (.int .u32 ((fsum l : Nat) : Int)) ∧ w' = w := by
  have m := h.out.sli.2.1
  have e := h.out.len
  rw [← e] at m
  have hE : Hid (n = l.length) := e
  clear e
  have F0 : Hid (fnv 2166136261 (l.take 0) = 2166136261) := rfl
  go_enter Tryd.func43, Tryd.ntmps43
  go_wp2
  go_loop [3, 8] (fun ts ti => ∃ k s : Nat, k ≤ n ∧ s < 4294967296 ∧ Hid (fnv 2166136261 (l.take k) = s) ∧ ts = .int .u32 s ∧ ti = .int .i64 k) (fun _ ti => n - (intOf ti).toNat)
  case atStart => exact ⟨0, 2166136261, by omega, by omega, F0.out, rfl, rfl⟩
  case round =>
    obtain ⟨k, s, hk, hs, HS, rfl, rfl⟩ := hrel
    by_cases hlt : k < n
    · obtain ⟨b, off, rfl, c1⟩ := row_at h.out hlt
      obtain ⟨x, Hx⟩ : ∃ x, Hid (l.getD k 0 = x) := ⟨_, rfl⟩
      have hx : x < 256 := by rw [← Hx.out]; exact getD_lt h.out.lt k
      rw [Hx.out] at c1
      obtain ⟨y, Hy⟩ : ∃ y, Hid (s ^^^ x = y) := ⟨_, rfl⟩
      have hy : y < 4294967296 := by rw [← Hy.out]; exact Nat.xor_lt_two_pow (n := 32) hs (by omega)
      have e1 : bits .xor .u32 (s : Int) (x : Int) = (y : Int) := by rw [u32_xor_nat s x hs (by omega), Hy.out]
      obtain ⟨z, Hz⟩ : ∃ z, Hid (y * 16777619 % 4294967296 = z) := ⟨_, rfl⟩
      have hz : z < 4294967296 := by rw [← Hz.out]; exact Nat.mod_lt _ (by omega)
      have e2 : (y : Int) * 16777619 % 4294967296 = (z : Int) := by have := Hz.out; omega
      have F1 : Hid (fnv 2166136261 (l.take (k + 1)) = z) := by
        rw [take_succ_getD (by rw [← hE.out]; exact hlt), fnv_snoc, HS.out, Hx.out, stp, Hy.out]
        exact Hz.out
      clear hE HS Hx Hy Hz
      go_wp2
      go_round
      case rel => exact ⟨k + 1, z, by omega, hz, F1.out, by go_num, by go_num⟩
      case measure => simp [intOf]; omega
    · have ek : k = n := by omega
      have F1 : Hid (fsum l = s) := by
        rw [← HS.out, ek, hE.out, List.take_length]; rfl
      clear hE HS
      go_wp2
      go_ret
      exact ⟨by rw [F1.out]; rfl, rfl⟩
theorem const_sln (w : World) (l : List Nat) (f : Nat × Nat) (h1 : ∀ x ∈ l, x < 256) (h2 : l.length ≤ 140737488352256) : Sln (w.alloc (.cells (l.map bv).toArray 5 f)) (some ⟨w.heap.size, 0, none⟩) l.length l := by
  have hb : (w.alloc (.cells (l.map bv).toArray 5 f)).heap[w.heap.size]? = some (.cells (l.map bv).toArray 5 f) := heap_alloc_new w _
  refine ⟨rfl, h1, h2, .inr ⟨w.heap.size, 0, rfl, by simp, fun i hi => ?_⟩⟩
  rw [Nat.zero_add]
  unfold World.cell?
  rw [hb]
  simp [hi, bv]
def aL : List Nat := [97]
theorem conv_a (w : World) : (convert 27 27 (.slice (some ⟨w.heap.size, 0, none⟩) 1 1)).run Tryd.prog (w.alloc (.cells #[.int .u8 97] 5)) = .ok (.slice (some ⟨w.heap.size, 0, none⟩) 1 1) (w.alloc (.cells (aL.map bv).toArray 5 (1, 2))) := Lib.run_convert_bytes_const w 27 5 _ 1 1 Tryd.underlying27 Tryd.underlying5
theorem sp_ab : spell [97, 122] = ⟨#[97, 122]⟩ := by decide
theorem sp_five : spell [172, 2, 2, 97, 122] = ⟨#[172, 2, 2, 97, 122]⟩ := by decide
theorem enc300 : enc 300 = [172, 2] := by rw [enc_ge (by omega), enc_lt (by omega)]
theorem fsum_a : fsum aL = 3826002220 := by decide +kernel
theorem sum_a (w : World) : Calls Tryd.prog 43 #[.slice (some ⟨w.heap.size, 0, none⟩) 1 1] (w.alloc (.cells (aL.map bv).toArray 5 (1, 2))) fun e w' => e = .returned (.int .u32 3826002220) ∧ w' = w.alloc (.cells (aL.map bv).toArray 5 (1, 2)) := by
  have SA : Hid (Sln (w.alloc (.cells (aL.map bv).toArray 5 (1, 2))) (some ⟨w.heap.size, 0, none⟩) 1 aL) := const_sln w aL (1, 2) (by decide) (by decide)
  refine (sum_n SA).mono ?_
  rintro e w5 ⟨h1, h5⟩
  rw [fsum_a] at h1
  exact ⟨h1, h5⟩
theorem lt_ab : ∀ x ∈ [97, 122], x < 256 := by decide
theorem text_ab {w : World} {g B : Nat} {a : Option Addr} {n c : Nat} {s : Bool} (hW : Hid (Wri w g B a n c [172, 2] s)) (hB : Hid (B ≤ w.heap.size)) (hb : Hid (n + 2 + 18 ≤ 140737488352256)) :
    Calls Tryd.prog 71 #[.pointer (some ⟨g, 0, none⟩),.string ⟨#[97, 122]⟩] w fun e w' => ∃ a' n' c', e = .returned (.tuple #[]) ∧ Hid (Wri w' g B a' n' c' [172, 2, 2, 97, 122] s ∧ Wfr w w' g a ∧ New w a a') := by
  have h := text_n (l := [97, 122]) (m := 2) hW lt_ab rfl hB hb
  rw [sp_ab, enc_lt (by omega)] at h
  exact h
theorem num_300 {w : World} {g B : Nat} (hW : Hid (Wri w g B none 0 0 [] false)) (hB : Hid (B ≤ w.heap.size)) :
    Calls Tryd.prog 35 #[.pointer (some ⟨g, 0, none⟩),.int .i64 300] w fun e w' => ∃ a' c', e = .returned (.tuple #[]) ∧ Hid (Wri w' g B a' 2 c' [172, 2] false ∧ Wfr w w' g none) := by
  have h := num_n (N := 300) hW (by omega) hB (by show _ ≤ _; omega)
  rw [enc300] at h
  refine Calls.mono h ?_
  rintro e w1 ⟨a1, n1, c1, h1, H1⟩
  have h2 : n1 = 2 := H1.out.1.own.len
  subst h2
  exact ⟨a1, c1, h1, H1.out.1, H1.out.2.1⟩
end Go.Proofs.YtppibcambhmomaaDoor
namespace Go.Proofs.YtppibcambhmomaaDoor
set_option maxRecDepth 20000
open Go.ChangeShapes Go.WideShapes Go.ChangeAt Go.RowKit
set_option linter.unusedVariables false
set_option linter.unusedSimpArgs false
theorem i64_mask (z : Int) : ∃ m : Nat, m < 9223372036854775808 ∧ bits .and .i64 z 9223372036854775807 = (m : Int) := by
  refine ⟨(BitVec.ofInt 64 z).toNat &&& 9223372036854775807, ?_, ?_⟩
  · have : (BitVec.ofInt 64 z).toNat &&& 9223372036854775807 ≤ 9223372036854775807 := Nat.and_le_right
    omega
  · have h : (BitVec.ofInt 64 z).toNat &&& 9223372036854775807 ≤ 9223372036854775807 := Nat.and_le_right
    show IntKind.i64.wrap ((BitVec.ofInt 64 z &&& BitVec.ofInt 64 ((9223372036854775807 : Nat) : Int)).toNat : Int) = _
    rw [BitVec.toNat_and, ofInt_i64 9223372036854775807 (by omega), IntKind.wrap_i64]
    omega
theorem Sln.take {w : World} {a : Option Addr} {n : Nat} {l : List Nat} (h : Sln w a n l) {k : Nat} (hk : k ≤ n) : Sln w a k (l.take k) := by
  have hl := h.len
  refine ⟨by simp; omega, fun x hx => h.lt x (List.mem_of_mem_take hx), by have := h.sli.2.1; simp; omega, ?_⟩
  by_cases hk0 : k = 0
  · subst hk0; exact .inl (by simp)
  · have hne : l ≠ [] := by intro h0; rw [h0] at hl; simp at hl; omega
    obtain ⟨b, off, h1, h2, h3⟩ := h.sli.2.2.resolve_left hne
    refine .inr ⟨b, off, h1, h2, fun i hi => ?_⟩
    have hi2 : i < k := by simp at hi; omega
    rw [h3 i (by simp at hi; omega)]
    have : (l.take k).getD i 0 = l.getD i 0 := by simp [List.getD, List.getElem?_take, hi2]
    rw [this]
theorem Own.cap {w : World} {B : Nat} {a : Option Addr} {n c : Nat} {L : List Nat} (h : Own w B a n c L) : n ≤ c := by
  rcases h.own.2 with ⟨h1, h0⟩ | ⟨g, cap, cur, h1, _, _, h5, _⟩
  · omega
  · simp only [Value.slice.injEq] at h1
    omega
theorem Own.below {w w' : World} {B : Nat} {a : Option Addr} {n c : Nat} {L : List Nat} (h : Own w B a n c L) (hb : Below w.heap.size w w') : Own w' B a n c L := h.block (fun q hq => hb.block q (h.ge q hq).2)
theorem Wri.below {w w' : World} {g B : Nat} {a : Option Addr} {n c : Nat} {L : List Nat} {s : Bool} (h : Wri w g B a n c L s) (hb : Below w.heap.size w w') : Wri w' g B a n c L s := ⟨(hb.block g h.lt).trans h.blk, h.own.below hb, h.ne⟩
abbrev wz : Obj := .cells #[.slice none 0 0, .bool false] 96
end Go.Proofs.YtppibcambhmomaaDoor
namespace Go.Proofs.YtppibcambhmomaaDoor
set_option maxRecDepth 20000
open Go.ChangeShapes Go.WideShapes Go.ChangeAt Go.RowKit
set_option linter.unusedVariables false
set_option linter.unusedSimpArgs false
theorem make_room4 (n : Nat) (h : n + 4 ≤ 281474976710656) (w : World) : (Instr.makeSlice 27 (.int .i64 0) (.int .i64 ((n : Int) + 4))).run Tryd.prog w = .ok (.slice (some ⟨w.heap.size, 0, none⟩) 0 (n + 4)) (w.alloc (.cells (madeCells #[.int .u8 0] (n + 4)) 5)) := by
  obtain ⟨i, hi, hz0, hz1, hz2⟩ := info_parts info5
  have hr := run_make (P := Tryd.prog) w 27 5 i (.int .u8 0) Tryd.underlying27 hi hz0 .i64 .i64 0 ((n : Int) + 4) (by omega) (by omega) (by rw [hz2]; omega) (by omega)
  rw [hz1] at hr
  have e : ((n : Int) + 4).toNat = n + 4 := by omega
  rw [e] at hr
  simpa [Value.cells] using hr
abbrev four (a b c d : Nat) : Obj := .cells #[.int .u8 (a : Int), .int .u8 (b : Int), .int .u8 (c : Int), .int .u8 (d : Int)] 5
set_option maxHeartbeats 1000000 in
theorem seal_n {a : Option Addr} {n k : Nat} {l : List Nat} {w : World} (h : Hid (Sln w a n l)) (hk : Hid (a = none → k = 0)) :
    Calls Tryd.prog 18 #[.slice a n k] w fun e w' => ∃ g N, e = .returned (.slice (some ⟨g, 0, none⟩) N N) ∧ Hid (N = n + 4 ∧ g = w.heap.size ∧ Blk w' g (sealL l) ∧ Below w.heap.size w w') := by
  have m := h.out.sli.2.1
  have e := h.out.len
  rw [← e] at m
  have mk := make_room4 n (by omega)
  have hb0 : Below w.heap.size w (w.alloc (.cells (madeCells #[.int .u8 0] (n + 4)) 5)) := (Below.refl _ _).alloc (Nat.le_refl _) _
  have own0 : (w.alloc (.cells (madeCells #[.int .u8 0] (n + 4)) 5)).ownsRow w.heap.size 5 1 (.slice (some ⟨w.heap.size, 0, none⟩) 0 (n + 4)) 0 [] := World.ownsRow_made w _ (n + 4) (Nat.le_refl _) (by unfold maxLen; omega) (by simp [size_madeCells])
  obtain ⟨w1, ap1, own1, gr1⟩ := app_fits own0 (h.out.below hb0) hk.out (by omega)
  rw [Nat.zero_add] at ap1 own1
  have hb1 : Below w.heap.size w w1 := hb0.grown gr1 (by simp) (fun k e => by simp at e; omega)
  obtain ⟨s, Hs⟩ : ∃ s, Hid (fsum l = s) := ⟨_, rfl⟩
  have hs : s < 4294967296 := by rw [← Hs.out]; exact fsum_lt l
  obtain ⟨b3, H3⟩ : ∃ b3, b3 = s / 16777216 := ⟨_, rfl⟩
  obtain ⟨q2, H2⟩ : ∃ q2, q2 = s / 65536 := ⟨_, rfl⟩
  obtain ⟨b2, H2'⟩ : ∃ b2, b2 = q2 % 256 := ⟨_, rfl⟩
  obtain ⟨q1, H1⟩ : ∃ q1, q1 = s / 256 := ⟨_, rfl⟩
  obtain ⟨b1, H1'⟩ : ∃ b1, b1 = q1 % 256 := ⟨_, rfl⟩
  obtain ⟨b0, H0⟩ : ∃ b0, b0 = s % 256 := ⟨_, rfl⟩
  have e3 : (s : Int) / 16777216 = (b3 : Int) := by omega
  have e2 : (s : Int) / 65536 = (q2 : Int) := by omega
  have e2' : (q2 : Int) % 256 = (b2 : Int) := by omega
  have e1 : (s : Int) / 256 = (q1 : Int) := by omega
  have e1' : (q1 : Int) % 256 = (b1 : Int) := by omega
  have e0 : (s : Int) % 256 = (b0 : Int) := by omega
  have x3 : b3 < 256 := by omega
  have x2 : b2 < 256 := by omega
  have x1 : b1 < 256 := by omega
  have x0 : b0 < 256 := by omega
  have y2 : q2 < 65536 := by omega
  have y1 : q1 < 16777216 := by omega
  have EQ : Hid (be4 s = [b3, b2, b1, b0]) := by
    show be4 s = _
    unfold be4
    rw [H2', H1', H3, H2, H1, H0, Nat.mod_eq_of_lt (a := s / 16777216) (by omega)]
  have own1' := own1.alloc (four b3 b2 b1 b0)
  have hb2 : Below w.heap.size w (w1.alloc (four b3 b2 b1 b0)) := hb1.alloc hb1.size _
  have bm : Blk (w1.alloc (four b3 b2 b1 b0)) w1.heap.size [b3, b2, b1, b0] := by
    show (w1.heap.push _)[w1.heap.size]? = _
    simp [bv]
  have sm := bm.sln (by simp; omega) (by simp)
  obtain ⟨w2, ap2, own2, gr2⟩ := app_fits (c := 4) own1' sm (by simp) (by simp)
  have hb3 : Below w.heap.size w w2 := hb2.grown gr2 hb2.size (fun k e => by simp at e; omega)
  have bf : Blk w2 w.heap.size (sealL l) := by
    have e2 : ([] ++ l.map bv ++ [b3, b2, b1, b0].map bv) = (sealL l).map bv := by rw [sealL, Hs.out, EQ.out]; simp
    rw [e2] at own2
    exact own_full own2
  have B3 : Hid (Below w.heap.size w w2) := hb3
  have B1 : Hid (Below w.heap.size w w1) := hb1
  have BF : Hid (Blk w2 w.heap.size (sealL l)) := bf
  have S1 : Hid (Sln w1 a n l) := h.out.below hb1
  have AP1 : Hid ((Builtin.append_ #[27, 27] 27 #[.slice (some ⟨w.heap.size, 0, none⟩) 0 (n + 4),.slice a n k]).run Tryd.prog (w.alloc (.cells (madeCells #[.int .u8 0] (n + 4)) 5)) = .ok (.slice (some ⟨w.heap.size, 0, none⟩) n (n + 4)) w1) := ap1
  have AP2 : Hid ((Builtin.append_ #[27, 27] 27 #[.slice (some ⟨w.heap.size, 0, none⟩) n (n + 4),.slice (some ⟨w1.heap.size, 0, none⟩) 4 4]).run Tryd.prog (w1.alloc (four b3 b2 b1 b0)) = .ok (.slice (some ⟨w.heap.size, 0, none⟩) (n + 4) (n + 4)) w2) := ap2
  clear bf hb3 gr2 own2 sm bm hb2 own1' hb1 own1 gr1 own0 hb0 e ap1 ap2 H3 H2 H2' H1 H1' H0
  go_enter Tryd.func18, Tryd.ntmps18
  go_wp2_with (first
    | (at_builtin; refine wpList_app (by rfl) (.tmp 9) (.tmp 10) (by rfl) (by rfl) (by rfl) (by rfl) AP1 ?_)
    | (at_builtin; refine wpList_app (by rfl) (.tmp 14) (.tmp 26) (by rfl) (by rfl) (by rfl) (by rfl) AP2 ?_)
    | (go_at_call 43; refine (sum_n S1).mono ?_; rintro e w9 ⟨rfl, h9⟩; rw [h9, Hs.out]; clear h9))
  go_ret
  exact ⟨_, n + 4, rfl, rfl, rfl, BF.out, B3.out⟩
theorem equal_n {w : World} {a b : Option Addr} {n m c d : Nat} {l k : List Nat} (h1 : Hid (Sln w a n l)) (h2 : Hid (Sln w b m k)) :
    Calls Tryd.prog 47 #[.slice a n c,.slice b m d] w fun e w' => e = .returned (.bool (decide (l = k))) ∧ w' = w := by
  have c1 := conv_n (k := c) h1
  have c2 := conv_n (k := d) h2
  have E := spell_beq h1.out.lt h2.out.lt
  go_enter Tryd.func47, Tryd.ntmps47
  go_wp2
  go_ret
  exact ⟨rfl, rfl⟩
/- Open where the sum is wrong -/
set_option maxHeartbeats 1000000 in
theorem open_bad {w : World} {a : Option Addr} {n c : Nat} {M : Nat → Prop} {l : List Nat} {E : Nat → Addr} (h : Hid (Sln w a n l)) (hc : Hid (a = none → c = 0)) (hnc : n ≤ c) (hn : 4 ≤ n) (hbad : Hid (sealL (l.take (n - 4)) ≠ l)) (hE : Hid (Sent w M E)) (hM : M 3) :
    Calls Tryd.prog 23 #[.slice a n c] w fun e w' => e = .returned (.tuple #[.slice none 0 0, .iface 142 (.pointer (some (E 3)))]) ∧ Hid (Below w.heap.size w w') := by
  have m := h.out.sli.2.1
  have e := h.out.len
  rw [← e] at m
  obtain ⟨q, hq⟩ : ∃ q, n = q + 4 := ⟨n - 4, by omega⟩
  subst hq
  have eq4 : q + 4 - 4 = q := by omega
  have S1 : Hid (Sln w a q (l.take q)) := h.out.take (by omega)
  have NE : Hid (decide (sealL (l.take q) = l) = false) := by have := hbad.out; rw [eq4] at this; show decide _ = false; simpa using this
  clear e hbad
  go_enter Tryd.func23, Tryd.ntmps23
  go_wp2_with (first
    | (go_at_call 18; refine (seal_n S1 hc).mono ?_; rintro e w1 ⟨g, N, rfl, H1⟩
       have L1 : Hid ((sealL (l.take q)).length ≤ 140737488352256) := by have := S1.out.len; rw [Hid, seal_len, ← this]; omega
       have T1 : Hid (Sln w1 (some ⟨g, 0, none⟩) N (sealL (l.take q))) := by
         have := H1.out.2.2.1.sln (seal_bytes S1.out.lt) L1.out
         rw [seal_len, ← S1.out.len, ← H1.out.1] at this
         exact this
       have T2 : Hid (Sln w1 a (q + 4) l) := h.out.below H1.out.2.2.2
       have ce := (hE.out.below H1.out.2.2.2).c 3 hM
       unfold er at ce
       have FIN : Hid (∀ j, Below w.heap.size w (w1.drewN j)) := fun j => below_drewN H1.out.2.2.2 j)
    | (go_at_call 47; refine (equal_n T1 T2).mono ?_; rintro e w9 ⟨rfl, h9⟩; rw [h9, NE.out]; clear h9))
  go_quiet (fail)
  go_wp2
  go_ret2
  exact ⟨rfl, FIN.out _⟩
end Go.Proofs.YtppibcambhmomaaDoor
namespace Go.Proofs.YtppibcambhmomaaDoor
set_option maxRecDepth 20000
open Go.ChangeShapes Go.WideShapes Go.ChangeAt Go.RowKit
set_option linter.unusedVariables false
set_option linter.unusedSimpArgs false
/- the place that the law picks: below N -/
theorem pick_place (x : Int) (N : Nat) (hN : 0 < N) : ∃ (t : Int) (r : Nat), Int.tmod x (N : Int) = t ∧ -(N : Int) < t ∧ t < (N : Int) ∧ Int.tmod (t + (N : Int)) (N : Int) = (r : Int) ∧ r < N := by
  have h1 : Int.tmod x (N : Int) < (N : Int) := Int.tmod_lt_of_pos x (by omega)
  have h2 : -(N : Int) < Int.tmod x (N : Int) := by
    have := Int.tmod_lt_of_pos (-x) (show (0 : Int) < (N : Int) by omega)
    rw [Int.neg_tmod] at this
    omega
  have h3 : Int.tmod (Int.tmod x (N : Int) + (N : Int)) (N : Int) = (Int.tmod x (N : Int) + (N : Int)) % (N : Int) := Int.tmod_eq_emod_of_nonneg (by omega)
  have h4 : 0 ≤ (Int.tmod x (N : Int) + (N : Int)) % (N : Int) := Int.emod_nonneg _ (by omega)
  have h5 : (Int.tmod x (N : Int) + (N : Int)) % (N : Int) < (N : Int) := Int.emod_lt_of_pos _ (by omega)
  exact ⟨Int.tmod x (N : Int), ((Int.tmod x (N : Int) + (N : Int)) % (N : Int)).toNat, rfl, h2, h1, by rw [h3]; omega, by omega⟩
end Go.Proofs.YtppibcambhmomaaDoor
