/- What the schedule of a block does to a machine, for all blocks. -/
import Derived.Test.YtmkknklkdgkbaaaDoorSb
namespace Go.Proofs.YtmkknklkdgkbaaaDoor
open Go.ChangeShapes Go.WideShapes Go.ChangeAt Go.RowKit
set_option linter.unusedVariables false
set_option linter.unusedSimpArgs false
def Sch3 (w wr : World) (b l : List Nat) : Prop := Arr .u8 121 wr w.heap.size b ∧ Arr .u32 127 wr (w.heap.size + 1) (List.replicate 64 0) ∧ Arr .u32 127 wr (w.heap.size + 1 + 1) (ext l 64) ∧ Below w.heap.size w wr
theorem firstW_length (b : List Nat) (k : Nat) : (Gs.firstW b k).length = k := by
  induction k with
  | zero => rfl
  | succ k ih => simp [Gs.firstW, ih]
theorem word_or {a b c d : Nat} (ha : a < 256) (hb : b < 256) (hc : c < 256) (hd : d < 256) :
    bits BinOp.or IntKind.u32 (bits BinOp.or IntKind.u32 (bits BinOp.or IntKind.u32 ((a : Int) * 16777216) ((b : Int) * 65536)) ((c : Int) * 256)) (d : Int) = ((Gs.word a b c d : Nat) : Int) := by
  have e1 : (a : Int) * 16777216 = ((a * 16777216 : Nat) : Int) := by simp
  have e2 : (b : Int) * 65536 = ((b * 65536 : Nat) : Int) := by simp
  have e3 : (c : Int) * 256 = ((c * 256 : Nat) : Int) := by simp
  rw [e1, e2, e3, u32_or_nat _ _ (by omega) (by omega), nat_join 24 _ _ (by omega) (by omega), u32_or_nat _ _ (by omega) (by omega), nat_join 16 _ _ (by omega) (by omega), u32_or_nat _ _ (by omega) (by omega), nat_join 8 _ _ (by omega) (by omega)]
  rfl
theorem ext_set {l : List Nat} {k n x : Nat} (h : l.length = k) (hk : k < n) : (ext l n).set k x = ext (l ++ [x]) n := by
  subst h
  obtain ⟨m, hm⟩ : ∃ m, n - l.length = m + 1 := ⟨n - l.length - 1, by omega⟩
  have hm2 : n - (l.length + 1) = m := by omega
  simp [ext, hm, hm2, List.replicate_succ]
theorem Sch3.snoc {w wr : World} {b l l2 : List Nat} {k x : Nat} (h : Sch3 w wr b l) (hl : l.length = k) (hk : k < 64) (e : l2 = l ++ [x]) :
    Sch3 w (World.setCell { heap := wr.heap, tape := wr.tape, drawn := wr.drawn + 1, os := wr.os, output := wr.output } ⟨w.heap.size + 1 + 1, k, none⟩ (.int .u32 (x : Nat))) b l2 := by
  subst e
  obtain ⟨h1, h2, h3, h4⟩ := h
  have o : Oth (w.heap.size + 1 + 1) wr (wr.drew.setCell ⟨w.heap.size + 1 + 1, k, none⟩ (.int .u32 (x : Nat))) := ((Oth.refl _ wr).drewN 1).setCell k _
  refine ⟨h1.oth o (by omega), h2.oth o (by omega), ?_, o.below h4 (by omega)⟩
  rw [← ext_set hl hk]
  exact Arr.set (w := wr.drew) h3 k x
theorem schedN_length (b : List Nat) (j : Nat) : (Gs.schedN b j).length = j + 16 := by
  induction j with
  | zero => exact firstW_length b 16
  | succ k ih => simp [Gs.schedN, ih]
theorem getD_snoc (l : List Nat) (x i : Nat) : (l ++ [x]).getD i 0 = if i < l.length then l.getD i 0 else if i = l.length then x else 0 := by
  simp only [List.getD]
  by_cases h : i < l.length
  · rw [List.getElem?_append_left h, if_pos h]
  · rw [List.getElem?_append_right (by omega), if_neg h]
    by_cases h2 : i = l.length
    · subst h2; simp
    · rw [if_neg h2]
      have : [x][i - l.length]? = none := by simp; omega
      rw [this]; rfl
theorem getD_snoc_lt {B : Nat} {l : List Nat} {x : Nat} (hB : 0 < B) (h : ∀ i, l.getD i 0 < B) (hx : x < B) (i : Nat) : (l ++ [x]).getD i 0 < B := by
  rw [getD_snoc]
  split
  · exact h i
  · split <;> omega
theorem firstW_lt {b : List Nat} (hB : ∀ x ∈ b, x < 256) (k : Nat) : ∀ i, (Gs.firstW b k).getD i 0 < 4294967296 := by
  induction k with
  | zero => intro i; simp [Gs.firstW]
  | succ k ih =>
    refine getD_snoc_lt (by decide) ih ?_
    have h0 := getD_lt hB (4 * k)
    have h1 := getD_lt hB (4 * k + 1)
    have h2 := getD_lt hB (4 * k + 2)
    have h3 := getD_lt hB (4 * k + 3)
    unfold Gs.word
    omega
theorem schedN_lt {b : List Nat} (hB : ∀ x ∈ b, x < 256) (j : Nat) : ∀ i, (Gs.schedN b j).getD i 0 < 4294967296 := by
  induction j with
  | zero => exact firstW_lt hB 16
  | succ k ih => exact getD_snoc_lt (by decide) ih (Gs.add_lt _ _)
theorem ext_getD {l : List Nat} {n i : Nat} (h : i < l.length) : (ext l n).getD i 0 = l.getD i 0 := by
  simp only [ext, List.getD]
  rw [List.getElem?_append_left h]
theorem Sch3.at_ {w wr : World} {b l : List Nat} (h : Sch3 w wr b l) {i : Nat} (hi : i < l.length) (hl : i < 64) : wr.cell? ⟨w.heap.size + 1 + 1, i, none⟩ = some (.int .u32 (l.getD i 0 : Nat)) := by
  have := h.2.2.1.cell (i := i) (by simp [ext]; omega)
  rw [ext_getD hi] at this
  exact this
theorem Sch3.drew {w wr : World} {b l : List Nat} (h : Sch3 w wr b l) : Sch3 w wr.drew b l := ⟨h.1, h.2.1, h.2.2.1, h.2.2.2.drew⟩
set_option maxRecDepth 20000 in
set_option maxHeartbeats 2000000 in
theorem sch (b : List Nat) (hb : b.length = 64) (hB : ∀ x ∈ b, x < 256) (w : World) :
    Calls Tryd.prog 76 #[.agg (cs .u8 b)] w fun e w' => ∃ l, e = .returned (.agg (cs .u32 l)) ∧ Hid (l = Gs.sched b ∧ Below w.heap.size w w') := by
  have HL : Hid (b.length = 64) := hb
  have HB : Hid (∀ x ∈ b, x < 256) := hB
  clear hb hB
  go_enter Tryd.func76, Tryd.ntmps76
  go_wp2
  go_loopw [8] (fun ti wr => ∃ k : Nat, k ≤ 16 ∧ ti = .int .i64 k ∧ Hid (Sch3 w wr b (Gs.firstW b k))) (fun ti _ => 16 - (intOf ti).toNat)
  case atStart =>
    refine ⟨0, by omega, rfl, ?_⟩
    refine ⟨(three w _ _ _).1, (three w _ _ _).2.1, (three w _ _ _).2.2, below3 w _ _ _⟩
  case round =>
    obtain ⟨k, hk, rfl, HK⟩ := hrel
    by_cases hlt : k < 16
    · obtain ⟨p, hp⟩ : ∃ p, p = 4 * k := ⟨_, rfl⟩
      have hp1 : (4 : Int) * (k : Int) = (p : Int) := by omega
      have hp2 : p + 3 < 64 := by omega
      have HP : Hid (p = 4 * k) := hp
      clear hp
      obtain ⟨x0, X0⟩ : ∃ x, Hid (b.getD p 0 = x) := ⟨_, rfl⟩
      obtain ⟨x1, X1⟩ : ∃ x, Hid (b.getD (p + 1) 0 = x) := ⟨_, rfl⟩
      obtain ⟨x2, X2⟩ : ∃ x, Hid (b.getD (p + 2) 0 = x) := ⟨_, rfl⟩
      obtain ⟨x3, X3⟩ : ∃ x, Hid (b.getD (p + 3) 0 = x) := ⟨_, rfl⟩
      have y0 : x0 < 256 := by rw [← X0.out]; exact getD_lt HB.out _
      have y1 : x1 < 256 := by rw [← X1.out]; exact getD_lt HB.out _
      have y2 : x2 < 256 := by rw [← X2.out]; exact getD_lt HB.out _
      have y3 : x3 < 256 := by rw [← X3.out]; exact getD_lt HB.out _
      have c0 : wr.cell? ⟨w.heap.size, p, none⟩ = some (.int .u8 (x0 : Nat)) := by rw [← X0.out]; exact HK.out.1.cell (by rw [HL.out]; omega)
      have c1 : wr.cell? ⟨w.heap.size, p + 1, none⟩ = some (.int .u8 (x1 : Nat)) := by rw [← X1.out]; exact HK.out.1.cell (by rw [HL.out]; omega)
      have c2 : wr.cell? ⟨w.heap.size, p + 2, none⟩ = some (.int .u8 (x2 : Nat)) := by rw [← X2.out]; exact HK.out.1.cell (by rw [HL.out]; omega)
      have c3 : wr.cell? ⟨w.heap.size, p + 3, none⟩ = some (.int .u8 (x3 : Nat)) := by rw [← X3.out]; exact HK.out.1.cell (by rw [HL.out]; omega)
      obtain ⟨z, hz⟩ : ∃ z : Nat, wr.cell? ⟨w.heap.size + 1 + 1, k, none⟩ = some (.int .u32 z) := by
        refine ⟨_, HK.out.2.2.1.cell ?_⟩
        rw [ext_length _ _ (by rw [firstW_length]; omega)]; omega
      have f0 : wr.frozen? ⟨w.heap.size + 1 + 1, k, none⟩ = false := HK.out.2.2.1.frozen k
      have q0 : IntKind.i64.wrap (p : Int) = (p : Int) := by rw [IntKind.wrap_i64]; omega
      have q1 : IntKind.i64.wrap ((p : Int) + 1) = (p : Int) + 1 := by rw [IntKind.wrap_i64]; omega
      have q2 : IntKind.i64.wrap ((p : Int) + 2) = (p : Int) + 2 := by rw [IntKind.wrap_i64]; omega
      have q3 : IntKind.i64.wrap ((p : Int) + 3) = (p : Int) + 3 := by rw [IntKind.wrap_i64]; omega
      have r0 : IntKind.u32.wrap (x0 : Int) = (x0 : Int) := by rw [IntKind.wrap_u32']; omega
      have r1 : IntKind.u32.wrap (x1 : Int) = (x1 : Int) := by rw [IntKind.wrap_u32']; omega
      have r2 : IntKind.u32.wrap (x2 : Int) = (x2 : Int) := by rw [IntKind.wrap_u32']; omega
      have r3 : IntKind.u32.wrap (x3 : Int) = (x3 : Int) := by rw [IntKind.wrap_u32']; omega
      have v0 : IntKind.u32.wrap ((x0 : Int) * 16777216) = ((x0 * 16777216 : Nat) : Int) := by rw [IntKind.wrap_u32']; omega
      have v1 : IntKind.u32.wrap ((x1 : Int) * 65536) = ((x1 * 65536 : Nat) : Int) := by rw [IntKind.wrap_u32']; omega
      have v2 : IntKind.u32.wrap ((x2 : Int) * 256) = ((x2 * 256 : Nat) : Int) := by rw [IntKind.wrap_u32']; omega
      have j0 : (0 : Int) ≤ (p : Int) := by omega
      have k1 : (0 : Int) ≤ (p : Int) + 1 := by omega
      have k2 : (0 : Int) ≤ (p : Int) + 2 := by omega
      have k3 : (0 : Int) ≤ (p : Int) + 3 := by omega
      have n1 : ((p : Int) + 1).toNat = p + 1 := by omega
      have n2 : ((p : Int) + 2).toNat = p + 2 := by omega
      have n3 : ((p : Int) + 3).toNat = p + 3 := by omega
      have j1 : (p : Int) < 64 := by omega
      have j2 : (p : Int) + 1 < 64 := by omega
      have j3 : (p : Int) + 2 < 64 := by omega
      have j4 : (p : Int) + 3 < 64 := by omega
      have i1 : (0 : Int) ≤ (k : Int) := by omega
      have i2 : (k : Int) < 64 := by omega
      have i3 : (k : Int) < 16 := by omega
      go_wp2
      go_still_tail 31, (by kernel_rfl)
      have WV : bits BinOp.or IntKind.u32 (bits BinOp.or IntKind.u32 (bits BinOp.or IntKind.u32 ((x0 : Int) * 16777216) ((x1 : Int) * 65536)) ((x2 : Int) * 256)) (x3 : Int) = ((Gs.word x0 x1 x2 x3 : Nat) : Int) := word_or y0 y1 y2 y3
      rw [WV]
      clear WV c0 c1 c2 c3 q0 q1 q2 q3 r0 r1 r2 r3 v0 v1 v2 n1 n2 n3 hp1
      go_wp2
      go_roundw
      case rel =>
        refine ⟨k + 1, by omega, by go_num, ?_⟩
        have e : Gs.firstW b (k + 1) = Gs.firstW b k ++ [Gs.word x0 x1 x2 x3] := by rw [← X0.out, ← X1.out, ← X2.out, ← X3.out, HP.out]; rfl
        exact HK.out.snoc (firstW_length b k) (by omega) e
      case measure => simp [intOf]; omega
    · have ek0 : k = 16 := by omega
      have ek : Hid (k = 16) := ek0
      clear ek0
      have i3 : ¬ ((k : Int) < 16) := by have := ek.out; omega
      go_wp2
      go_loopw [5] (fun ti wr => ∃ k j : Nat, k = j + 16 ∧ j ≤ 48 ∧ ti = .int .i64 k ∧ Hid (Sch3 w wr b (Gs.schedN b j))) (fun ti _ => 64 - (intOf ti).toNat)
      case atStart => exact ⟨16, 0, by omega, by omega, rfl, by have := HK.out; rw [ek.out] at this; exact this⟩
      case round =>
        clear HK
        obtain ⟨k, j, hk, hj, rfl, HK⟩ := hrel
        by_cases hlt : j < 48
        · obtain ⟨l, Hl⟩ : ∃ l, Hid (Gs.schedN b j = l) := ⟨_, rfl⟩
          rw [Hl.out] at HK
          have LL : Hid (l.length = k) := by rw [← Hl.out, hk]; exact schedN_length b j
          have LB : Hid (∀ i, l.getD i 0 < 4294967296) := by rw [← Hl.out]; exact schedN_lt HB.out j
          obtain ⟨a15, h15⟩ : ∃ a, a = k - 15 := ⟨_, rfl⟩
          obtain ⟨a2, h2⟩ : ∃ a, a = k - 2 := ⟨_, rfl⟩
          obtain ⟨a16, h16⟩ : ∃ a, a = k - 16 := ⟨_, rfl⟩
          obtain ⟨a7, h7⟩ : ∃ a, a = k - 7 := ⟨_, rfl⟩
          have A15 : Hid (a15 = k - 15) := h15
          have A2 : Hid (a2 = k - 2) := h2
          have A16 : Hid (a16 = k - 16) := h16
          have A7 : Hid (a7 = k - 7) := h7
          have i15 : IntKind.i64.wrap ((k : Int) - 15) = (a15 : Int) := by rw [IntKind.wrap_i64]; omega
          have i2 : IntKind.i64.wrap ((k : Int) - 2) = (a2 : Int) := by rw [IntKind.wrap_i64]; omega
          have i16 : IntKind.i64.wrap ((k : Int) - 16) = (a16 : Int) := by rw [IntKind.wrap_i64]; omega
          have i7 : IntKind.i64.wrap ((k : Int) - 7) = (a7 : Int) := by rw [IntKind.wrap_i64]; omega
          have p15 : (0 : Int) ≤ (a15 : Int) := by omega
          have p2 : (0 : Int) ≤ (a2 : Int) := by omega
          have p16 : (0 : Int) ≤ (a16 : Int) := by omega
          have p7 : (0 : Int) ≤ (a7 : Int) := by omega
          have r15 : (a15 : Int) < 64 := by omega
          have r2 : (a2 : Int) < 64 := by omega
          have r16 : (a16 : Int) < 64 := by omega
          have r7 : (a7 : Int) < 64 := by omega
          have pk : (0 : Int) ≤ (k : Int) := by omega
          have rk : (k : Int) < 64 := by omega
          obtain ⟨x15, X15⟩ : ∃ x, Hid (l.getD a15 0 = x) := ⟨_, rfl⟩
          obtain ⟨x2, X2⟩ : ∃ x, Hid (l.getD a2 0 = x) := ⟨_, rfl⟩
          obtain ⟨x16, X16⟩ : ∃ x, Hid (l.getD a16 0 = x) := ⟨_, rfl⟩
          obtain ⟨x7, X7⟩ : ∃ x, Hid (l.getD a7 0 = x) := ⟨_, rfl⟩
          have y15 : x15 < 4294967296 := by rw [← X15.out]; exact LB.out _
          have y2 : x2 < 4294967296 := by rw [← X2.out]; exact LB.out _
          have c15 : wr.cell? ⟨w.heap.size + 1 + 1, a15, none⟩ = some (.int .u32 (x15 : Nat)) := by rw [← X15.out]; exact HK.out.at_ (by rw [LL.out]; omega) (by omega)
          have HJ : Hid (k = j + 16) := hk
          clear h15 h2 h16 h7 hk
          go_wp2
          go_still_tail 17, (by kernel_rfl)
          still_call (turn_z x15 7 7 rfl y15 (by decide) (by decide) _)
          repeat still_step
          still_call (turn_z x15 18 18 rfl y15 (by decide) (by decide) _)
          repeat still_step
          refine wpStill_nil ?_
          rw [s0_bits y15]
          generalize hw4 : ({ heap := wr.heap, tape := wr.tape, drawn := wr.drawn + 1, os := wr.os, output := wr.output } : World) = w4
          have hw5 : wr.drew = w4 := hw4
          have H4 : Hid (Sch3 w w4 b l) := by rw [← hw5]; exact HK.out.drew
          clear hw4 hw5 c15 HK
          have c2 : w4.cell? ⟨w.heap.size + 1 + 1, a2, none⟩ = some (.int .u32 (x2 : Nat)) := by rw [← X2.out]; exact H4.out.at_ (by rw [LL.out, A2.out]; have := HJ.out; omega) (by omega)
          go_wp2
          go_still_tail 17, (by kernel_rfl)
          still_call (turn_z x2 17 17 rfl y2 (by decide) (by decide) _)
          repeat still_step
          still_call (turn_z x2 19 19 rfl y2 (by decide) (by decide) _)
          repeat still_step
          refine wpStill_nil ?_
          rw [s1_bits y2]
          generalize hw6 : ({ heap := w4.heap, tape := w4.tape, drawn := w4.drawn + 1, os := w4.os, output := w4.output } : World) = w6
          have hw7 : w4.drew = w6 := hw6
          have H6 : Hid (Sch3 w w6 b l) := by rw [← hw7]; exact H4.out.drew
          clear hw6 hw7 c2 H4
          obtain ⟨e0, E0⟩ : ∃ x, Hid (Gs.s0 x15 = x) := ⟨_, rfl⟩
          obtain ⟨e1, E1⟩ : ∃ x, Hid (Gs.s1 x2 = x) := ⟨_, rfl⟩
          rw [E0.out, E1.out]
          have c16 : w6.cell? ⟨w.heap.size + 1 + 1, a16, none⟩ = some (.int .u32 (x16 : Nat)) := by rw [← X16.out]; exact H6.out.at_ (by rw [LL.out, A16.out]; have := HJ.out; omega) (by omega)
          have c7 : w6.cell? ⟨w.heap.size + 1 + 1, a7, none⟩ = some (.int .u32 (x7 : Nat)) := by rw [← X7.out]; exact H6.out.at_ (by rw [LL.out, A7.out]; have := HJ.out; omega) (by omega)
          obtain ⟨z, hz⟩ : ∃ z : Nat, w6.cell? ⟨w.heap.size + 1 + 1, k, none⟩ = some (.int .u32 z) := by
            refine ⟨_, H6.out.2.2.1.cell ?_⟩
            rw [ext_length _ _ (by rw [LL.out]; omega)]; omega
          have f0 : w6.frozen? ⟨w.heap.size + 1 + 1, k, none⟩ = false := H6.out.2.2.1.frozen k
          obtain ⟨m1, M1⟩ : ∃ x, Hid (Gs.add x16 e0 = x) := ⟨_, rfl⟩
          obtain ⟨m2, M2⟩ : ∃ x, Hid (Gs.add m1 x7 = x) := ⟨_, rfl⟩
          obtain ⟨m3, M3⟩ : ∃ x, Hid (Gs.add m2 e1 = x) := ⟨_, rfl⟩
          have w1 : IntKind.u32.wrap ((x16 : Int) + (e0 : Int)) = (m1 : Int) := by rw [add_wrap, M1.out]
          have w2 : IntKind.u32.wrap ((m1 : Int) + (x7 : Int)) = (m2 : Int) := by rw [add_wrap, M2.out]
          have w3 : IntKind.u32.wrap ((m2 : Int) + (e1 : Int)) = (m3 : Int) := by rw [add_wrap, M3.out]
          go_wp2
          go_still_tail 15, (by kernel_rfl)
          go_wp2
          go_roundw
          case rel =>
            refine ⟨k + 1, j + 1, by have := HJ.out; omega, by omega, by go_num, ?_⟩
            have e : Gs.schedN b (j + 1) = l ++ [m3] := by
              show Gs.schedN b j ++ [Gs.nextW (Gs.schedN b j)] = _
              rw [Hl.out, ← M3.out, ← M2.out, ← M1.out, ← E0.out, ← E1.out, ← X16.out, ← X7.out, ← X15.out, ← X2.out, A16.out, A7.out, A15.out, A2.out, ← LL.out]
              rfl
            exact H6.out.snoc LL.out (by omega) e
          case measure => simp [intOf]; omega
        · have ej : j = 48 := by omega
          have ik : ¬ ((k : Int) < 64) := by omega
          subst ej
          have LN : (Gs.schedN b 48).length = 64 := schedN_length b 48
          obtain ⟨l, Hl⟩ : ∃ l, Hid (Gs.schedN b 48 = l) := ⟨_, rfl⟩
          rw [Hl.out] at HK LN
          have e1 : ext l 64 = l := by simp [ext, LN]
          have R3 : Hid (Rng .u32 wr (w.heap.size + 1 + 1) 0 l) := by have := HK.out.2.2.1; rw [e1] at this; exact this.rng
          have R2 : Hid (Arr .u32 127 wr (w.heap.size + 1) (List.replicate 64 0)) := HK.out.2.1
          have R4 : Hid (Arr .u32 127 (wr.setRow (w.heap.size + 1) (cs .u32 l)) (w.heap.size + 1) l) := HK.out.2.1.setRow l
          have B4 : Hid (Below w.heap.size w (wr.setRow (w.heap.size + 1) (cs .u32 l))) := (Oth.setRow _).below HK.out.2.2.2 (by omega)
          have N : Hid (l.length = 64) := LN
          clear LN e1 hk
          go_wp2_with (first | (refine wpList_ld (by rfl) 127 (.tmp 3) (by rfl) (by rfl) R3 und65 (by rw [N.out]; exact sz65) ?_) | (refine wpList_st (by rfl) 127 (.tmp 2) (.tmp 96) (by rfl) (by rfl) (by rfl) R2 (by rw [N.out]; exact sz65) (by rw [N.out]; rfl) ?_))
          refine bodyPost_ret (v := .agg (cs .u32 l)) (res_arr (by rfl) (by rfl) R4.out und65 (by rw [N.out]; exact sz65)) rfl ?_
          exact ⟨l, rfl, Hl.out.symm, B4.out⟩
end Go.Proofs.YtmkknklkdgkbaaaDoor
