/- What appendNumber does: the number's bytes behind a row of the call's own. -/
import Derived.Test.YtoegfckafnlknaaDoorVa
import Derived.Test.YtoegfckafnlknaaDoorVc
import Derived.WalkLawsBesides
namespace Go.Proofs.YtoegfckafnlknaaDoor
set_option maxRecDepth 20000
open Go.ChangeShapes Go.WideShapes Go.ChangeAt Go.RowKit
set_option linter.unusedVariables false
set_option linter.unusedSimpArgs false
theorem ofInt_i64 (a : Nat) (ha : a < 9223372036854775808) : (BitVec.ofInt 64 (a : Int)).toNat = a := by
  rw [BitVec.toNat_ofInt]
  omega
theorem i64_and_nat (a b : Nat) (ha : a < 9223372036854775808) (hb : b < 9223372036854775808) : bits .and .i64 (a : Int) (b : Int) = ((a &&& b : Nat) : Int) := by
  have h : a &&& b ≤ a := Nat.and_le_left
  show IntKind.i64.wrap ((BitVec.ofInt 64 (a : Int) &&& BitVec.ofInt 64 (b : Int)).toNat : Int) = _
  rw [BitVec.toNat_and, ofInt_i64 a ha, ofInt_i64 b hb, IntKind.wrap_i64]
  omega
theorem and127 (n : Nat) : n &&& 127 = n % 128 := Nat.and_two_pow_sub_one_eq_mod n 7
theorem i64_and127 (a : Nat) (ha : a < 9223372036854775808) : bits .and .i64 (a : Int) 127 = ((a % 128 : Nat) : Int) := by
  have := i64_and_nat a 127 ha (by omega)
  rw [and127] at this
  exact this
theorem u8_or128 (a : Nat) (ha : a < 128) : bits .or .u8 (a : Int) 128 = ((a + 128 : Nat) : Int) := by
  have := u8_or_nat a 128 (by omega) (by omega)
  have e : 128 ||| a = 128 + a := nat_join 7 128 a (by rfl) (by omega)
  rw [Nat.or_comm, e, Nat.add_comm] at this
  exact this
/- while a number's bytes are appended -/
structure Ap (w wr : World) (B : Nat) (a0 a : Option Addr) (n c : Nat) (P : List Nat) : Prop where
  own : Own wr B a n c P
  gr : w.grownBy wr (blkOf a0)
  new : New w a0 a
theorem Ap.byte {w wr : World} {B : Nat} {a0 a : Option Addr} {n c : Nat} {P : List Nat} {x : Nat} (h : Ap w wr B a0 a n c P) (hx : x < 256) (hb : n + 1 ≤ 140737488352256) (hB : B ≤ w.heap.size) :
    ∃ a' c' w', (Builtin.append_ #[35, 35] 35 #[.slice a n c, .slice (some ⟨wr.heap.size, 0, none⟩) 1 1]).run Tryd.prog (wr.alloc (.cells #[.int .u8 (x : Int)] 5)) = .ok (.slice a' (n + 1) c') w' ∧ Ap w w' B a0 a' (n + 1) c' (P ++ [x]) := by
  obtain ⟨a', c', w', h1, h2, h3, h4⟩ := app_byte h.own hx hb (Nat.le_trans hB h.gr.size)
  exact ⟨a', c', w', h1, h2, grown_trans h.gr h3 h.new, h.new.trans h4 h.gr.size⟩
set_option maxHeartbeats 1000000 in
theorem appendNumber_n {w : World} {B : Nat} {a : Option Addr} {n c N : Nat} {L : List Nat} (hO : Hid (Own w B a n c L)) (hN : Hid (N < 9223372036854775808)) (hB : Hid (B ≤ w.heap.size)) (hb : Hid (n + 9 ≤ 140737488352256)) :
    Calls Tryd.prog 79 #[.slice a n c, .int .i64 (N : Int)] w fun e w' => ∃ a' n' c', e = .returned (.slice a' n' c') ∧ Hid (Ap w w' B a a' n' c' (L ++ enc N)) := by
  obtain ⟨T, HT⟩ : ∃ T, Hid (T = L ++ enc N) := ⟨_, rfl⟩
  have TL : Hid (T.length ≤ 140737488352256) := by
    have h1 := enc_nine hN.out
    have h2 := hO.out.len
    have h3 := hb.out
    rw [HT.out, Hid, List.length_append]
    omega
  have A0 : Hid (Ap w w B a a n c L ∧ L ++ enc N = T) := ⟨⟨hO.out, World.grownBy.refl _ _, fun q hq => .inl hq⟩, HT.out.symm⟩
  rw [← HT.out]
  have hN2 := hN.out
  clear HT hO hb
  go_enter Tryd.func79, Tryd.ntmps79
  go_wp2
  go_loopw [0, 1] (fun tv tn wr => ∃ (a1 : Option Addr) (n1 c1 m : Nat) (P : List Nat), tv = .slice a1 n1 c1 ∧ tn = .int .i64 m ∧ m < 9223372036854775808 ∧ Hid (Ap w wr B a a1 n1 c1 P ∧ P ++ enc m = T)) (fun _ tn _ => (intOf tn).toNat)
  case atStart => exact ⟨a, n, c, N, L, rfl, rfl, hN2, A0.out⟩
  case round =>
    obtain ⟨a1, n1, c1, m, P, rfl, rfl, hm, H1⟩ := hrel
    have hn1 : n1 + 1 ≤ 140737488352256 := by
      have h1 := H1.out.1.own.len
      have h2 := congrArg List.length H1.out.2
      have h3 := TL.out
      have h4 := enc_pos m
      rw [List.length_append] at h2
      omega
    by_cases hlt : m < 128
    · obtain ⟨a2, c2, w2, hrun, h2⟩ := H1.out.1.byte (x := m) (by omega) hn1 hB.out
      have AP : Hid ((Builtin.append_ #[35, 35] 35 #[.slice a1 n1 c1, .slice (some ⟨wr.heap.size, 0, none⟩) 1 1]).run Tryd.prog (wr.alloc (.cells #[.int .u8 (m : Int)] 5)) = .ok (.slice a2 (n1 + 1) c2) w2) := hrun
      have F : Hid (Ap w w2 B a a2 (n1 + 1) c2 T) := by
        have e := H1.out.2
        rw [enc_lt hlt] at e
        rw [← e]
        exact h2
      have i1 : ¬ (127 < (m : Int)) := by omega
      clear hrun h2 H1
      go_wp2_with (at_builtin; refine wpList_app (by rfl) (.tmp 16) (.tmp 19) (by rfl) (by rfl) (by rfl) (by rfl) AP ?_)
      go_ret
      exact ⟨a2, n1 + 1, c2, rfl, F.out⟩
    · obtain ⟨y, Hy⟩ : ∃ y, Hid (m % 128 = y) := ⟨_, rfl⟩
      have hy : y < 128 := by rw [← Hy.out]; omega
      obtain ⟨x, Hx⟩ : ∃ x, Hid (x = y + 128) := ⟨_, rfl⟩
      have hx : x < 256 := by rw [Hx.out]; omega
      have e1 : bits .and .i64 (m : Int) 127 = (y : Int) := by rw [i64_and127 m hm, Hy.out]
      have e2 : bits .or .u8 (y : Int) 128 = (x : Int) := by rw [u8_or128 y hy, Hx.out]
      obtain ⟨a2, c2, w2, hrun, h2⟩ := H1.out.1.byte (x := x) hx hn1 hB.out
      have AP : Hid ((Builtin.append_ #[35, 35] 35 #[.slice a1 n1 c1, .slice (some ⟨wr.heap.size, 0, none⟩) 1 1]).run Tryd.prog (wr.alloc (.cells #[.int .u8 (x : Int)] 5)) = .ok (.slice a2 (n1 + 1) c2) w2) := hrun
      have F : Hid (Ap w w2 B a a2 (n1 + 1) c2 (P ++ [x]) ∧ P ++ [x] ++ enc (m / 128) = T) := by
        refine ⟨h2, ?_⟩
        have e := H1.out.2
        rw [enc_ge (by omega), Hy.out] at e
        rw [← e, Hx.out]
        simp
      have i1 : 127 < (m : Int) := by omega
      clear hrun h2 H1
      go_wp2_with (at_builtin; refine wpList_app (by rfl) (.tmp 7) (.tmp 12) (by rfl) (by rfl) (by rfl) (by rfl) AP ?_)
      go_roundw
      case rel => exact ⟨a2, n1 + 1, c2, m / 128, P ++ [x], rfl, by go_num, by omega, F.out⟩
      case measure => simp [intOf]; omega
end Go.Proofs.YtoegfckafnlknaaDoor
