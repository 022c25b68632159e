import Derived.Test.YtkdgakcmhnadfaaGreatDoorMSa
/- Sc -/
/- What the schedule of a block does to a machine, for all blocks. -/
namespace Go.Proofs.YtkdgakcmhnadfaaGreatDoor
open Go.ChangeShapes Go.WideShapes Go.ChangeAt Go.RowKit
set_option linter.unusedVariables false
set_option linter.unusedSimpArgs false
def Sch3 (w wr : World) (b l : List Nat) : Prop := Arr .u8 240 wr w.heap.size b ∧ Arr .u32 261 wr (w.heap.size + 1) (List.replicate 64 0) ∧ Arr .u32 261 wr (w.heap.size + 1 + 1) (ext l 64) ∧ Below w.heap.size w wr
theorem firstW_length (b : List Nat) (k : Nat) : (Gs.firstW b k).length = k := by
  induction k with
  | zero => rfl
  | succ k ih => simp [Gs.firstW, ih]
theorem word_or {a b c d : Nat} (ha : a < 256) (hb : b < 256) (hc : c < 256) (hd : d < 256) :
    bits BinOp.or IntKind.u32 (bits BinOp.or IntKind.u32 (bits BinOp.or IntKind.u32 ((a : Int) * 16777216) ((b : Int) * 65536)) ((c : Int) * 256)) (d : Int) = ((Gs.word a b c d : Nat) : Int) := by
  have e1 : (a : Int) * 16777216 = ((a * 16777216 : Nat) : Int) := by simp
  have e2 : (b : Int) * 65536 = ((b * 65536 : Nat) : Int) := by simp
  have e3 : (c : Int) * 256 = ((c * 256 : Nat) : Int) := by simp
  rw [e1, e2, e3, u32_or_nat _ _ (by omega) (by omega), nat_join 24 _ _ (by omega) (by omega), u32_or_nat _ _ (by omega) (by omega), nat_join 16 _ _ (by omega) (by omega), u32_or_nat _ _ (by omega) (by omega), nat_join 8 _ _ (by omega) (by omega)]
  rfl
theorem ext_set {l : List Nat} {k n x : Nat} (h : l.length = k) (hk : k < n) : (ext l n).set k x = ext (l ++ [x]) n := by
  subst h
  obtain ⟨m, hm⟩ : ∃ m, n - l.length = m + 1 := ⟨n - l.length - 1, by omega⟩
  have hm2 : n - (l.length + 1) = m := by omega
  simp [ext, hm, hm2, List.replicate_succ]
theorem Sch3.snoc {w wr : World} {b l l2 : List Nat} {k x : Nat} (h : Sch3 w wr b l) (hl : l.length = k) (hk : k < 64) (e : l2 = l ++ [x]) :
    Sch3 w (World.setCell { heap := wr.heap, tape := wr.tape, drawn := wr.drawn + 1, os := wr.os, output := wr.output } ⟨w.heap.size + 1 + 1, k, none⟩ (.int .u32 (x : Nat))) b l2 := by
  subst e
  obtain ⟨h1, h2, h3, h4⟩ := h
  have o : Oth (w.heap.size + 1 + 1) wr (wr.drew.setCell ⟨w.heap.size + 1 + 1, k, none⟩ (.int .u32 (x : Nat))) := ((Oth.refl _ wr).drewN 1).setCell k _
  refine ⟨h1.oth o (by omega), h2.oth o (by omega), ?_, o.below h4 (by omega)⟩
  rw [← ext_set hl hk]
  exact Arr.set (w := wr.drew) h3 k x
theorem schedN_length (b : List Nat) (j : Nat) : (Gs.schedN b j).length = j + 16 := by
  induction j with
  | zero => exact firstW_length b 16
  | succ k ih => simp [Gs.schedN, ih]
theorem getD_snoc (l : List Nat) (x i : Nat) : (l ++ [x]).getD i 0 = if i < l.length then l.getD i 0 else if i = l.length then x else 0 := by
  simp only [List.getD]
  by_cases h : i < l.length
  · rw [List.getElem?_append_left h, if_pos h]
  · rw [List.getElem?_append_right (by omega), if_neg h]
    by_cases h2 : i = l.length
    · subst h2; simp
    · rw [if_neg h2]
      have : [x][i - l.length]? = none := by simp; omega
      rw [this]; rfl
theorem getD_snoc_lt {B : Nat} {l : List Nat} {x : Nat} (hB : 0 < B) (h : ∀ i, l.getD i 0 < B) (hx : x < B) (i : Nat) : (l ++ [x]).getD i 0 < B := by
  rw [getD_snoc]
  split
  · exact h i
  · split <;> omega
theorem firstW_lt {b : List Nat} (hB : ∀ x ∈ b, x < 256) (k : Nat) : ∀ i, (Gs.firstW b k).getD i 0 < 4294967296 := by
  induction k with
  | zero => intro i; simp [Gs.firstW]
  | succ k ih =>
    refine getD_snoc_lt (by decide) ih ?_
    have h0 := getD_lt hB (4 * k)
    have h1 := getD_lt hB (4 * k + 1)
    have h2 := getD_lt hB (4 * k + 2)
    have h3 := getD_lt hB (4 * k + 3)
    unfold Gs.word
    omega
theorem schedN_lt {b : List Nat} (hB : ∀ x ∈ b, x < 256) (j : Nat) : ∀ i, (Gs.schedN b j).getD i 0 < 4294967296 := by
  induction j with
  | zero => exact firstW_lt hB 16
  | succ k ih => exact getD_snoc_lt (by decide) ih (Gs.add_lt _ _)
theorem ext_getD {l : List Nat} {n i : Nat} (h : i < l.length) : (ext l n).getD i 0 = l.getD i 0 := by
  simp only [ext, List.getD]
  rw [List.getElem?_append_left h]
theorem Sch3.at_ {w wr : World} {b l : List Nat} (h : Sch3 w wr b l) {i : Nat} (hi : i < l.length) (hl : i < 64) : wr.cell? ⟨w.heap.size + 1 + 1, i, none⟩ = some (.int .u32 (l.getD i 0 : Nat)) := by
  have := h.2.2.1.cell (i := i) (by simp [ext]; omega)
  rw [ext_getD hi] at this
  exact this
theorem Sch3.drew {w wr : World} {b l : List Nat} (h : Sch3 w wr b l) : Sch3 w wr.drew b l := ⟨h.1, h.2.1, h.2.2.1, h.2.2.2.drew⟩
set_option maxRecDepth 20000 in
set_option maxHeartbeats 2000000 in
theorem sch (b : List Nat) (hb : b.length = 64) (hB : ∀ x ∈ b, x < 256) (w : World) :
    Calls Tryz.prog 195 #[.agg (cs .u8 b)] w fun e w' => ∃ l, e = .returned (.agg (cs .u32 l)) ∧ Hid (l = Gs.sched b ∧ Below w.heap.size w w') := by
  have HL : Hid (b.length = 64) := hb
  have HB : Hid (∀ x ∈ b, x < 256) := hB
  clear hb hB
  go_enter Tryz.func195, Tryz.ntmps195
  go_wp2
  go_loopw [8] (fun ti wr => ∃ k : Nat, k ≤ 16 ∧ ti = .int .i64 k ∧ Hid (Sch3 w wr b (Gs.firstW b k))) (fun ti _ => 16 - (intOf ti).toNat)
  case atStart =>
    refine ⟨0, by omega, rfl, ?_⟩
    refine ⟨(three w _ _ _).1, (three w _ _ _).2.1, (three w _ _ _).2.2, below3 w _ _ _⟩
  case round =>
    obtain ⟨k, hk, rfl, HK⟩ := hrel
    by_cases hlt : k < 16
    · obtain ⟨p, hp⟩ : ∃ p, p = 4 * k := ⟨_, rfl⟩
      have hp1 : (4 : Int) * (k : Int) = (p : Int) := by omega
      have hp2 : p + 3 < 64 := by omega
      have HP : Hid (p = 4 * k) := hp
      clear hp
      obtain ⟨x0, X0⟩ : ∃ x, Hid (b.getD p 0 = x) := ⟨_, rfl⟩
      obtain ⟨x1, X1⟩ : ∃ x, Hid (b.getD (p + 1) 0 = x) := ⟨_, rfl⟩
      obtain ⟨x2, X2⟩ : ∃ x, Hid (b.getD (p + 2) 0 = x) := ⟨_, rfl⟩
      obtain ⟨x3, X3⟩ : ∃ x, Hid (b.getD (p + 3) 0 = x) := ⟨_, rfl⟩
      have y0 : x0 < 256 := by rw [← X0.out]; exact getD_lt HB.out _
      have y1 : x1 < 256 := by rw [← X1.out]; exact getD_lt HB.out _
      have y2 : x2 < 256 := by rw [← X2.out]; exact getD_lt HB.out _
      have y3 : x3 < 256 := by rw [← X3.out]; exact getD_lt HB.out _
      have c0 : wr.cell? ⟨w.heap.size, p, none⟩ = some (.int .u8 (x0 : Nat)) := by rw [← X0.out]; exact HK.out.1.cell (by rw [HL.out]; omega)
      have c1 : wr.cell? ⟨w.heap.size, p + 1, none⟩ = some (.int .u8 (x1 : Nat)) := by rw [← X1.out]; exact HK.out.1.cell (by rw [HL.out]; omega)
      have c2 : wr.cell? ⟨w.heap.size, p + 2, none⟩ = some (.int .u8 (x2 : Nat)) := by rw [← X2.out]; exact HK.out.1.cell (by rw [HL.out]; omega)
      have c3 : wr.cell? ⟨w.heap.size, p + 3, none⟩ = some (.int .u8 (x3 : Nat)) := by rw [← X3.out]; exact HK.out.1.cell (by rw [HL.out]; omega)
      obtain ⟨z, hz⟩ : ∃ z : Nat, wr.cell? ⟨w.heap.size + 1 + 1, k, none⟩ = some (.int .u32 z) := by
        refine ⟨_, HK.out.2.2.1.cell ?_⟩
        rw [ext_length _ _ (by rw [firstW_length]; omega)]; omega
      have f0 : wr.frozen? ⟨w.heap.size + 1 + 1, k, none⟩ = false := HK.out.2.2.1.frozen k
      have q0 : IntKind.i64.wrap (p : Int) = (p : Int) := by rw [IntKind.wrap_i64]; omega
      have q1 : IntKind.i64.wrap ((p : Int) + 1) = (p : Int) + 1 := by rw [IntKind.wrap_i64]; omega
      have q2 : IntKind.i64.wrap ((p : Int) + 2) = (p : Int) + 2 := by rw [IntKind.wrap_i64]; omega
      have q3 : IntKind.i64.wrap ((p : Int) + 3) = (p : Int) + 3 := by rw [IntKind.wrap_i64]; omega
      have r0 : IntKind.u32.wrap (x0 : Int) = (x0 : Int) := by rw [IntKind.wrap_u32']; omega
      have r1 : IntKind.u32.wrap (x1 : Int) = (x1 : Int) := by rw [IntKind.wrap_u32']; omega
      have r2 : IntKind.u32.wrap (x2 : Int) = (x2 : Int) := by rw [IntKind.wrap_u32']; omega
      have r3 : IntKind.u32.wrap (x3 : Int) = (x3 : Int) := by rw [IntKind.wrap_u32']; omega
      have v0 : IntKind.u32.wrap ((x0 : Int) * 16777216) = ((x0 * 16777216 : Nat) : Int) := by rw [IntKind.wrap_u32']; omega
      have v1 : IntKind.u32.wrap ((x1 : Int) * 65536) = ((x1 * 65536 : Nat) : Int) := by rw [IntKind.wrap_u32']; omega
      have v2 : IntKind.u32.wrap ((x2 : Int) * 256) = ((x2 * 256 : Nat) : Int) := by rw [IntKind.wrap_u32']; omega
      have j0 : (0 : Int) ≤ (p : Int) := by omega
      have k1 : (0 : Int) ≤ (p : Int) + 1 := by omega
      have k2 : (0 : Int) ≤ (p : Int) + 2 := by omega
      have k3 : (0 : Int) ≤ (p : Int) + 3 := by omega
      have n1 : ((p : Int) + 1).toNat = p + 1 := by omega
      have n2 : ((p : Int) + 2).toNat = p + 2 := by omega
      have n3 : ((p : Int) + 3).toNat = p + 3 := by omega
      have j1 : (p : Int) < 64 := by omega
      have j2 : (p : Int) + 1 < 64 := by omega
      have j3 : (p : Int) + 2 < 64 := by omega
      have j4 : (p : Int) + 3 < 64 := by omega
      have i1 : (0 : Int) ≤ (k : Int) := by omega
      have i2 : (k : Int) < 64 := by omega
      have i3 : (k : Int) < 16 := by omega
      go_wp2
      go_still_tail 31, (by kernel_rfl)
      have WV : bits BinOp.or IntKind.u32 (bits BinOp.or IntKind.u32 (bits BinOp.or IntKind.u32 ((x0 : Int) * 16777216) ((x1 : Int) * 65536)) ((x2 : Int) * 256)) (x3 : Int) = ((Gs.word x0 x1 x2 x3 : Nat) : Int) := word_or y0 y1 y2 y3
      rw [WV]
      clear WV c0 c1 c2 c3 q0 q1 q2 q3 r0 r1 r2 r3 v0 v1 v2 n1 n2 n3 hp1
      go_wp2
      go_roundw
      case rel =>
        refine ⟨k + 1, by omega, by go_num, ?_⟩
        have e : Gs.firstW b (k + 1) = Gs.firstW b k ++ [Gs.word x0 x1 x2 x3] := by rw [← X0.out, ← X1.out, ← X2.out, ← X3.out, HP.out]; rfl
        exact HK.out.snoc (firstW_length b k) (by omega) e
      case measure => simp [intOf]; omega
    · have ek0 : k = 16 := by omega
      have ek : Hid (k = 16) := ek0
      clear ek0
      have i3 : ¬ ((k : Int) < 16) := by have := ek.out; omega
      go_wp2
      go_loopw [5] (fun ti wr => ∃ k j : Nat, k = j + 16 ∧ j ≤ 48 ∧ ti = .int .i64 k ∧ Hid (Sch3 w wr b (Gs.schedN b j))) (fun ti _ => 64 - (intOf ti).toNat)
      case atStart => exact ⟨16, 0, by omega, by omega, rfl, by have := HK.out; rw [ek.out] at this; exact this⟩
      case round =>
        clear HK
        obtain ⟨k, j, hk, hj, rfl, HK⟩ := hrel
        by_cases hlt : j < 48
        · obtain ⟨l, Hl⟩ : ∃ l, Hid (Gs.schedN b j = l) := ⟨_, rfl⟩
          rw [Hl.out] at HK
          have LL : Hid (l.length = k) := by rw [← Hl.out, hk]; exact schedN_length b j
          have LB : Hid (∀ i, l.getD i 0 < 4294967296) := by rw [← Hl.out]; exact schedN_lt HB.out j
          obtain ⟨a15, h15⟩ : ∃ a, a = k - 15 := ⟨_, rfl⟩
          obtain ⟨a2, h2⟩ : ∃ a, a = k - 2 := ⟨_, rfl⟩
          obtain ⟨a16, h16⟩ : ∃ a, a = k - 16 := ⟨_, rfl⟩
          obtain ⟨a7, h7⟩ : ∃ a, a = k - 7 := ⟨_, rfl⟩
          have A15 : Hid (a15 = k - 15) := h15
          have A2 : Hid (a2 = k - 2) := h2
          have A16 : Hid (a16 = k - 16) := h16
          have A7 : Hid (a7 = k - 7) := h7
          have i15 : IntKind.i64.wrap ((k : Int) - 15) = (a15 : Int) := by rw [IntKind.wrap_i64]; omega
          have i2 : IntKind.i64.wrap ((k : Int) - 2) = (a2 : Int) := by rw [IntKind.wrap_i64]; omega
          have i16 : IntKind.i64.wrap ((k : Int) - 16) = (a16 : Int) := by rw [IntKind.wrap_i64]; omega
          have i7 : IntKind.i64.wrap ((k : Int) - 7) = (a7 : Int) := by rw [IntKind.wrap_i64]; omega
          have p15 : (0 : Int) ≤ (a15 : Int) := by omega
          have p2 : (0 : Int) ≤ (a2 : Int) := by omega
          have p16 : (0 : Int) ≤ (a16 : Int) := by omega
          have p7 : (0 : Int) ≤ (a7 : Int) := by omega
          have r15 : (a15 : Int) < 64 := by omega
          have r2 : (a2 : Int) < 64 := by omega
          have r16 : (a16 : Int) < 64 := by omega
          have r7 : (a7 : Int) < 64 := by omega
          have pk : (0 : Int) ≤ (k : Int) := by omega
          have rk : (k : Int) < 64 := by omega
          obtain ⟨x15, X15⟩ : ∃ x, Hid (l.getD a15 0 = x) := ⟨_, rfl⟩
          obtain ⟨x2, X2⟩ : ∃ x, Hid (l.getD a2 0 = x) := ⟨_, rfl⟩
          obtain ⟨x16, X16⟩ : ∃ x, Hid (l.getD a16 0 = x) := ⟨_, rfl⟩
          obtain ⟨x7, X7⟩ : ∃ x, Hid (l.getD a7 0 = x) := ⟨_, rfl⟩
          have y15 : x15 < 4294967296 := by rw [← X15.out]; exact LB.out _
          have y2 : x2 < 4294967296 := by rw [← X2.out]; exact LB.out _
          have c15 : wr.cell? ⟨w.heap.size + 1 + 1, a15, none⟩ = some (.int .u32 (x15 : Nat)) := by rw [← X15.out]; exact HK.out.at_ (by rw [LL.out]; omega) (by omega)
          have HJ : Hid (k = j + 16) := hk
          clear h15 h2 h16 h7 hk
          go_wp2
          go_still_tail 17, (by kernel_rfl)
          still_call (turn_z x15 7 7 rfl y15 (by decide) (by decide) _)
          repeat still_step
          still_call (turn_z x15 18 18 rfl y15 (by decide) (by decide) _)
          repeat still_step
          refine wpStill_nil ?_
          rw [s0_bits y15]
          generalize hw4 : ({ heap := wr.heap, tape := wr.tape, drawn := wr.drawn + 1, os := wr.os, output := wr.output } : World) = w4
          have hw5 : wr.drew = w4 := hw4
          have H4 : Hid (Sch3 w w4 b l) := by rw [← hw5]; exact HK.out.drew
          clear hw4 hw5 c15 HK
          have c2 : w4.cell? ⟨w.heap.size + 1 + 1, a2, none⟩ = some (.int .u32 (x2 : Nat)) := by rw [← X2.out]; exact H4.out.at_ (by rw [LL.out, A2.out]; have := HJ.out; omega) (by omega)
          go_wp2
          go_still_tail 17, (by kernel_rfl)
          still_call (turn_z x2 17 17 rfl y2 (by decide) (by decide) _)
          repeat still_step
          still_call (turn_z x2 19 19 rfl y2 (by decide) (by decide) _)
          repeat still_step
          refine wpStill_nil ?_
          rw [s1_bits y2]
          generalize hw6 : ({ heap := w4.heap, tape := w4.tape, drawn := w4.drawn + 1, os := w4.os, output := w4.output } : World) = w6
          have hw7 : w4.drew = w6 := hw6
          have H6 : Hid (Sch3 w w6 b l) := by rw [← hw7]; exact H4.out.drew
          clear hw6 hw7 c2 H4
          obtain ⟨e0, E0⟩ : ∃ x, Hid (Gs.s0 x15 = x) := ⟨_, rfl⟩
          obtain ⟨e1, E1⟩ : ∃ x, Hid (Gs.s1 x2 = x) := ⟨_, rfl⟩
          rw [E0.out, E1.out]
          have c16 : w6.cell? ⟨w.heap.size + 1 + 1, a16, none⟩ = some (.int .u32 (x16 : Nat)) := by rw [← X16.out]; exact H6.out.at_ (by rw [LL.out, A16.out]; have := HJ.out; omega) (by omega)
          have c7 : w6.cell? ⟨w.heap.size + 1 + 1, a7, none⟩ = some (.int .u32 (x7 : Nat)) := by rw [← X7.out]; exact H6.out.at_ (by rw [LL.out, A7.out]; have := HJ.out; omega) (by omega)
          obtain ⟨z, hz⟩ : ∃ z : Nat, w6.cell? ⟨w.heap.size + 1 + 1, k, none⟩ = some (.int .u32 z) := by
            refine ⟨_, H6.out.2.2.1.cell ?_⟩
            rw [ext_length _ _ (by rw [LL.out]; omega)]; omega
          have f0 : w6.frozen? ⟨w.heap.size + 1 + 1, k, none⟩ = false := H6.out.2.2.1.frozen k
          obtain ⟨m1, M1⟩ : ∃ x, Hid (Gs.add x16 e0 = x) := ⟨_, rfl⟩
          obtain ⟨m2, M2⟩ : ∃ x, Hid (Gs.add m1 x7 = x) := ⟨_, rfl⟩
          obtain ⟨m3, M3⟩ : ∃ x, Hid (Gs.add m2 e1 = x) := ⟨_, rfl⟩
          have w1 : IntKind.u32.wrap ((x16 : Int) + (e0 : Int)) = (m1 : Int) := by rw [add_wrap, M1.out]
          have w2 : IntKind.u32.wrap ((m1 : Int) + (x7 : Int)) = (m2 : Int) := by rw [add_wrap, M2.out]
          have w3 : IntKind.u32.wrap ((m2 : Int) + (e1 : Int)) = (m3 : Int) := by rw [add_wrap, M3.out]
          go_wp2
          go_still_tail 15, (by kernel_rfl)
          go_wp2
          go_roundw
          case rel =>
            refine ⟨k + 1, j + 1, by have := HJ.out; omega, by omega, by go_num, ?_⟩
            have e : Gs.schedN b (j + 1) = l ++ [m3] := by
              show Gs.schedN b j ++ [Gs.nextW (Gs.schedN b j)] = _
              rw [Hl.out, ← M3.out, ← M2.out, ← M1.out, ← E0.out, ← E1.out, ← X16.out, ← X7.out, ← X15.out, ← X2.out, A16.out, A7.out, A15.out, A2.out, ← LL.out]
              rfl
            exact H6.out.snoc LL.out (by omega) e
          case measure => simp [intOf]; omega
        · have ej : j = 48 := by omega
          have ik : ¬ ((k : Int) < 64) := by omega
          subst ej
          have LN : (Gs.schedN b 48).length = 64 := schedN_length b 48
          obtain ⟨l, Hl⟩ : ∃ l, Hid (Gs.schedN b 48 = l) := ⟨_, rfl⟩
          rw [Hl.out] at HK LN
          have e1 : ext l 64 = l := by simp [ext, LN]
          have R3 : Hid (Rng .u32 wr (w.heap.size + 1 + 1) 0 l) := by have := HK.out.2.2.1; rw [e1] at this; exact this.rng
          have R2 : Hid (Arr .u32 261 wr (w.heap.size + 1) (List.replicate 64 0)) := HK.out.2.1
          have R4 : Hid (Arr .u32 261 (wr.setRow (w.heap.size + 1) (cs .u32 l)) (w.heap.size + 1) l) := HK.out.2.1.setRow l
          have B4 : Hid (Below w.heap.size w (wr.setRow (w.heap.size + 1) (cs .u32 l))) := (Oth.setRow _).below HK.out.2.2.2 (by omega)
          have N : Hid (l.length = 64) := LN
          clear LN e1 hk
          go_wp2_with (first | (refine wpList_ld (by rfl) 261 (.tmp 3) (by rfl) (by rfl) R3 und65 (by rw [N.out]; exact sz65) ?_) | (refine wpList_st (by rfl) 261 (.tmp 2) (.tmp 96) (by rfl) (by rfl) (by rfl) R2 (by rw [N.out]; exact sz65) (by rw [N.out]; rfl) ?_))
          refine bodyPost_ret (v := .agg (cs .u32 l)) (res_arr (by rfl) (by rfl) R4.out und65 (by rw [N.out]; exact sz65)) rfl ?_
          exact ⟨l, rfl, Hl.out.symm, B4.out⟩
end Go.Proofs.YtkdgakcmhnadfaaGreatDoor

/- Sd -/
/- What the state's 'after' does to a machine, for all states and blocks. -/
namespace Go.Proofs.YtkdgakcmhnadfaaGreatDoor
open Go.ChangeShapes Go.WideShapes Go.ChangeAt Go.RowKit
set_option linter.unusedVariables false
set_option linter.unusedSimpArgs false
/- the constants lie where the program names them -/
def Kst (w : World) : Prop := ∀ i, i < 64 → w.cell? ⟨21, i, none⟩ = some (.int .u32 (Gs.K.getD i 0 : Nat))
def Z8 : List Nat := List.replicate 8 0
def Z64 : List Nat := List.replicate 64 0
structure Aft (w wr : World) (g5 : Nat) (s W : List Nat) : Prop where
  st : Arr .u32 237 wr w.heap.size s
  out : Arr .u32 237 wr (w.heap.size + 1 + 1) Z8
  sch : Arr .u32 261 wr g5 W
  bel : Below w.heap.size w wr
def Lt32 (l : List Nat) : Prop := ∀ x ∈ l, x < 4294967296
/- a store of a whole array into a block of its own -/
theorem wpList_st0 {ops : Array Oper} {rest : List Oper} {o : Oper} {a : Act} {Q : Exit → Act → World → Prop} {w : World} {k : IntKind} {t : TypeId} {g : Nat} {l l2 : List Nat} (hgd : o.guard = none) (hd : o.dst = none) (ty : TypeId) (x y : Operand)
    (ho : o.op = .store ty x y) (hx : a.eval x = .pointer (some ⟨g, 0, none⟩)) (hy : a.eval y = .agg (cs k l2)) (hr : Hid (Arr k t w g l)) (hi : (Tryz.prog.info? ty).map (·.size) = some l2.length) (hl : l.length = l2.length)
    (h : wpList Tryz.prog ops Q rest a (w.setRow g (cs k l2))) : wpList Tryz.prog ops Q (o :: rest) a w :=
  wpList_st hgd ty x y ho hx hy hr hi hl (by rw [hd]; exact h)
theorem aft_start {w w1 : World} {s b W : List Nat} (hw : Below (((w.alloc (.cells (cs .u32 s) 237)).alloc (.cells (cs .u8 b) 240)).alloc (.cells (cs .u32 Z8) 237)).heap.size (((w.alloc (.cells (cs .u32 s) 237)).alloc (.cells (cs .u8 b) 240)).alloc (.cells (cs .u32 Z8) 237)) w1) :
    Aft w ((w1.alloc (.cells (cs .u32 Z64) 261)).setRow w1.heap.size (cs .u32 W)) w1.heap.size s W ∧ w.heap.size < w1.heap.size := by
  have hz : (((w.alloc (.cells (cs .u32 s) 237)).alloc (.cells (cs .u8 b) 240)).alloc (.cells (cs .u32 Z8) 237)).heap.size = w.heap.size + 1 + 1 + 1 := by simp
  have h1 := hw.size
  rw [hz] at h1
  have o : Oth w1.heap.size (w1.alloc (.cells (cs .u32 Z64) 261)) ((w1.alloc (.cells (cs .u32 Z64) 261)).setRow w1.heap.size (cs .u32 W)) := Oth.setRow _
  obtain ⟨t1, t2, t3⟩ := three w (.cells (cs .u32 s) 237) (.cells (cs .u8 b) 240) (.cells (cs .u32 Z8) 237)
  have a1 : Arr .u32 237 w1 w.heap.size s := Arr.below (k := .u32) (t := 237) t1 hw (by rw [hz]; omega)
  have a3 : Arr .u32 237 w1 (w.heap.size + 1 + 1) Z8 := Arr.below (k := .u32) (t := 237) t3 hw (by rw [hz]; omega)
  have hb := below3 w (.cells (cs .u32 s) 237) (.cells (cs .u8 b) 240) (.cells (cs .u32 Z8) 237)
  have hb2 : Below w.heap.size w w1 := hb.trans (hw.mono (by rw [hz]; omega))
  refine ⟨⟨(a1.alloc _).oth o (by omega), (a3.alloc _).oth o (by omega), (Arr.new w1 .u32 261 Z64).setRow W, o.below (hb2.alloc hb2.size _) (by omega)⟩, by omega⟩
def Ok (r : Gs.St) : Prop := r.a < 4294967296 ∧ r.b < 4294967296 ∧ r.c < 4294967296 ∧ r.d < 4294967296 ∧ r.e < 4294967296 ∧ r.f < 4294967296 ∧ r.g < 4294967296 ∧ r.h < 4294967296
theorem Lt32.getD {l : List Nat} (h : Lt32 l) (i : Nat) : l.getD i 0 < 4294967296 := by
  by_cases hi : i < l.length
  · have e : l.getD i 0 = l[i] := by simp [List.getD, hi]
    rw [e]; exact h _ (List.getElem_mem hi)
  · have e : l.getD i 0 = 0 := by simp [List.getD, Nat.le_of_not_lt hi]
    omega
theorem Ok.ofL {l : List Nat} (h : Lt32 l) : Ok (Gs.ofL l) := ⟨h.getD 0, h.getD 1, h.getD 2, h.getD 3, h.getD 4, h.getD 5, h.getD 6, h.getD 7⟩
theorem Ok.step {r : Gs.St} (h : Ok r) (k w : Nat) : Ok (Gs.step r k w) := ⟨Gs.add_lt _ _, h.1, h.2.1, h.2.2.1, Gs.add_lt _ _, h.2.2.2.2.1, h.2.2.2.2.2.1, h.2.2.2.2.2.2.1⟩
theorem Aft.drewN {w wr : World} {g5 : Nat} {s W : List Nat} (h : Aft w wr g5 s W) (n : Nat) : Aft w (wr.drewN n) g5 s W := ⟨h.st, h.out, h.sch, ⟨h.bel.os, h.bel.tape, h.bel.output, h.bel.size, h.bel.block⟩⟩
theorem Kst.below {B : Nat} {w wr : World} (h : Kst w) (hb : Below B w wr) (h0 : 21 < B) : Kst wr := fun i hi => (hb.cell (p := ⟨21, i, none⟩) h0).trans (h i hi)
structure Rnd (w wr : World) (g5 : Nat) (s W : List Nat) (n a b c d e f g h : Nat) : Prop where
  aft : Aft w wr g5 s W
  eq : Gs.rounds W (Gs.ofL s) n = ⟨a, b, c, d, e, f, g, h⟩
  ok : Ok ⟨a, b, c, d, e, f, g, h⟩
theorem add_mod (a b : Nat) : ((a : Int) + (b : Int)) % 4294967296 = ((Gs.add a b : Nat) : Int) := by
  unfold Gs.add
  omega
def sig1 (e : Nat) : Nat := (Gs.rot 6 e ^^^ Gs.rot 11 e) ^^^ Gs.rot 25 e
def sig0 (a : Nat) : Nat := (Gs.rot 2 a ^^^ Gs.rot 13 a) ^^^ Gs.rot 22 a
theorem sig1_lt {x : Nat} (hx : x < 4294967296) : sig1 x < 4294967296 := Gs.xor_lt (Gs.xor_lt (Gs.rot_lt _ _ hx) (Gs.rot_lt _ _ hx)) (Gs.rot_lt _ _ hx)
theorem sig1_bits {x : Nat} (hx : x < 4294967296) : bits BinOp.xor IntKind.u32 (bits BinOp.xor IntKind.u32 ((Gs.rot 6 x : Nat) : Int) ((Gs.rot 11 x : Nat) : Int)) ((Gs.rot 25 x : Nat) : Int) = ((sig1 x : Nat) : Int) := by
  rw [xor_nat (Gs.rot_lt _ _ hx) (Gs.rot_lt _ _ hx), xor_nat (Gs.xor_lt (Gs.rot_lt _ _ hx) (Gs.rot_lt _ _ hx)) (Gs.rot_lt _ _ hx)]
  rfl
theorem sig0_bits {x : Nat} (hx : x < 4294967296) : bits BinOp.xor IntKind.u32 (bits BinOp.xor IntKind.u32 ((Gs.rot 2 x : Nat) : Int) ((Gs.rot 13 x : Nat) : Int)) ((Gs.rot 22 x : Nat) : Int) = ((sig0 x : Nat) : Int) := by
  rw [xor_nat (Gs.rot_lt _ _ hx) (Gs.rot_lt _ _ hx), xor_nat (Gs.xor_lt (Gs.rot_lt _ _ hx) (Gs.rot_lt _ _ hx)) (Gs.rot_lt _ _ hx)]
  rfl
theorem xor_all {e : Nat} (he : e < 4294967296) : 4294967295 ^^^ e = 4294967295 - e := by
  have h := u32_andNot_nat 4294967295 e (by decide) he
  apply Nat.eq_of_testBit_eq
  intro i
  have h2 : (4294967295 : Nat) - e = 2 ^ 32 - (e + 1) := by omega
  rw [Nat.testBit_xor, h2, Nat.testBit_two_pow_sub_succ (show e < 2 ^ 32 from he)]
  have h3 : (4294967295 : Nat) = 2 ^ 32 - 1 := by decide
  rw [h3, Nat.testBit_two_pow_sub_one]
  by_cases hi : i < 32
  · simp [hi]
  · have : e.testBit i = false := Nat.testBit_lt_two_pow (Nat.lt_of_lt_of_le he (by
      have : (2 : Nat) ^ 32 ≤ 2 ^ i := Nat.pow_le_pow_right (by decide) (by omega)
      simpa using this))
    simp [hi, this]
theorem not_bits {e : Nat} (he : e < 4294967296) : bits BinOp.xor IntKind.u32 (if IntKind.u32.signed = true then -1 else IntKind.u32.max) (e : Int) = ((4294967295 - e : Nat) : Int) := by
  have e1 : (if IntKind.u32.signed = true then -1 else IntKind.u32.max) = ((4294967295 : Nat) : Int) := by decide
  rw [e1, xor_nat (by decide) he, xor_all he]
theorem and_nat {a b : Nat} (ha : a < 4294967296) (hb : b < 4294967296) : bits BinOp.and IntKind.u32 (a : Int) (b : Int) = ((a &&& b : Nat) : Int) := u32_and_nat a b ha hb
theorem choice_bits {e f g : Nat} (he : e < 4294967296) (hf : f < 4294967296) (hg : g < 4294967296) : bits BinOp.xor IntKind.u32 (bits BinOp.and IntKind.u32 (e : Int) (f : Int)) (bits BinOp.and IntKind.u32 (bits BinOp.xor IntKind.u32 (if IntKind.u32.signed = true then -1 else IntKind.u32.max) (e : Int)) (g : Int)) = ((Gs.choice e f g : Nat) : Int) := by
  rw [not_bits he, and_nat he hf, and_nat (by omega) hg, xor_nat (Gs.and_lt he) (Gs.and_lt (by omega))]
  rfl
theorem most_bits {a b c : Nat} (ha : a < 4294967296) (hb : b < 4294967296) (hc : c < 4294967296) : bits BinOp.xor IntKind.u32 (bits BinOp.xor IntKind.u32 (bits BinOp.and IntKind.u32 (a : Int) (b : Int)) (bits BinOp.and IntKind.u32 (a : Int) (c : Int))) (bits BinOp.and IntKind.u32 (b : Int) (c : Int)) = ((Gs.most a b c : Nat) : Int) := by
  rw [and_nat ha hb, and_nat ha hc, and_nat hb hc, xor_nat (Gs.and_lt ha) (Gs.and_lt ha), xor_nat (Gs.xor_lt (Gs.and_lt ha) (Gs.and_lt ha)) (Gs.and_lt hb)]
  rfl
set_option maxRecDepth 20000 in
set_option maxHeartbeats 2000000 in
theorem after_n (s b : List Nat) (hs : s.length = 8) (hb : b.length = 64) (hS : Hid (Lt32 s)) (hB : Hid (∀ x ∈ b, x < 256)) (w : World) (hK : Hid (Kst w)) (h0 : 21 < w.heap.size) :
    Calls Tryz.prog 173 #[.agg (cs .u32 s), .agg (cs .u8 b)] w fun e w' => ∃ l, e = .returned (.agg (cs .u32 l)) ∧ Hid (l = Gs.after s b ∧ Below w.heap.size w w') := by
  have Ls : Hid (s.length = 8) := hs
  have Lb : Hid (b.length = 64) := hb
  clear hs hb
  have R1 : ∀ o3, Hid (Rng .u8 (((w.alloc (.cells (cs .u32 s) 237)).alloc (.cells (cs .u8 b) 240)).alloc o3) (w.heap.size + 1) 0 b) := fun o3 => Arr.rng (k := .u8) (t := 240) (three w _ _ o3).2.1
  go_enter Tryz.func173, Tryz.ntmps173
  go_wp2_with (first
    | (refine wpList_ld (by rfl) 240 (.tmp 3) (by rfl) (by rfl) (R1 _) und56 (by rw [Lb.out]; exact sz56) ?_)
    | (go_at_call 195; refine (sch b Lb.out hB.out _).mono ?_; rintro e w1 ⟨W, rfl, HW⟩
       have R5 : Hid (Arr .u32 261 (w1.alloc (.cells (cs .u32 Z64) 261)) w1.heap.size Z64) := Arr.new w1 .u32 261 Z64
       have N5 : Hid (W.length = 64) := by rw [HW.out.1]; exact schedN_length b 48
       have A5 : Hid (Aft w ((w1.alloc (.cells (cs .u32 Z64) 261)).setRow w1.heap.size (cs .u32 W)) w1.heap.size s W ∧ w.heap.size < w1.heap.size) := aft_start HW.out.2
       have W5 : Hid (W = Gs.sched b) := HW.out.1)
    | (refine wpList_st0 (t := 261) (l := Z64) (by rfl) (by rfl) 261 (.tmp 5) (.tmp 18) (by rfl) (by rfl) (by rfl) R5 (by rw [N5.out]; exact sz65) (by rw [N5.out]; rfl) ?_
       generalize hg5 : w1.heap.size = g5 at A5 ⊢
       obtain ⟨w5, hw5⟩ : ∃ w5, w5 = (w1.alloc (.cells (cs .u32 Z64) 261)).setRow g5 (cs .u32 W) := ⟨_, rfl⟩
       rw [← hw5] at A5
       refine (show _ = w5 from hw5.symm) ▸ ?_
       clear hw5 hg5 R5 HW R1))
  obtain ⟨s0, S0⟩ : ∃ x, Hid (s.getD 0 0 = x) := ⟨_, rfl⟩
  obtain ⟨s1, S1⟩ : ∃ x, Hid (s.getD 1 0 = x) := ⟨_, rfl⟩
  obtain ⟨s2, S2⟩ : ∃ x, Hid (s.getD 2 0 = x) := ⟨_, rfl⟩
  obtain ⟨s3, S3⟩ : ∃ x, Hid (s.getD 3 0 = x) := ⟨_, rfl⟩
  obtain ⟨s4, S4⟩ : ∃ x, Hid (s.getD 4 0 = x) := ⟨_, rfl⟩
  obtain ⟨s5, S5⟩ : ∃ x, Hid (s.getD 5 0 = x) := ⟨_, rfl⟩
  obtain ⟨s6, S6⟩ : ∃ x, Hid (s.getD 6 0 = x) := ⟨_, rfl⟩
  obtain ⟨s7, S7⟩ : ∃ x, Hid (s.getD 7 0 = x) := ⟨_, rfl⟩
  have c0 : w5.cell? ⟨w.heap.size, 0, none⟩ = some (.int .u32 (s0 : Nat)) := by rw [← S0.out]; exact A5.out.1.st.cell (by rw [Ls.out]; omega)
  have c1 : w5.cell? ⟨w.heap.size, 1, none⟩ = some (.int .u32 (s1 : Nat)) := by rw [← S1.out]; exact A5.out.1.st.cell (by rw [Ls.out]; omega)
  have c2 : w5.cell? ⟨w.heap.size, 2, none⟩ = some (.int .u32 (s2 : Nat)) := by rw [← S2.out]; exact A5.out.1.st.cell (by rw [Ls.out]; omega)
  have c3 : w5.cell? ⟨w.heap.size, 3, none⟩ = some (.int .u32 (s3 : Nat)) := by rw [← S3.out]; exact A5.out.1.st.cell (by rw [Ls.out]; omega)
  have c4 : w5.cell? ⟨w.heap.size, 4, none⟩ = some (.int .u32 (s4 : Nat)) := by rw [← S4.out]; exact A5.out.1.st.cell (by rw [Ls.out]; omega)
  have c5 : w5.cell? ⟨w.heap.size, 5, none⟩ = some (.int .u32 (s5 : Nat)) := by rw [← S5.out]; exact A5.out.1.st.cell (by rw [Ls.out]; omega)
  have c6 : w5.cell? ⟨w.heap.size, 6, none⟩ = some (.int .u32 (s6 : Nat)) := by rw [← S6.out]; exact A5.out.1.st.cell (by rw [Ls.out]; omega)
  have c7 : w5.cell? ⟨w.heap.size, 7, none⟩ = some (.int .u32 (s7 : Nat)) := by rw [← S7.out]; exact A5.out.1.st.cell (by rw [Ls.out]; omega)
  go_quiet (fail)
  go_wp2
  go_loopw [35, 6, 7, 8, 9, 10, 11, 12, 13] (fun ti ta tb tc td te tf tg th wr => ∃ n a b c d e f g h : Nat, n ≤ 64 ∧ ti = .int .i64 n ∧ ta = .int .u32 a ∧ tb = .int .u32 b ∧ tc = .int .u32 c ∧ td = .int .u32 d ∧ te = .int .u32 e ∧ tf = .int .u32 f ∧ tg = .int .u32 g ∧ th = .int .u32 h ∧ Hid (Rnd w wr g5 s W n a b c d e f g h)) (fun ti _ _ _ _ _ _ _ _ _ => 64 - (intOf ti).toNat)
  case atStart =>
    refine ⟨0, s0, s1, s2, s3, s4, s5, s6, s7, by omega, rfl, rfl, rfl, rfl, rfl, rfl, rfl, rfl, rfl, ?_⟩
    refine ⟨A5.out.1.drewN _, ?_, ?_⟩
    · rw [← S0.out, ← S1.out, ← S2.out, ← S3.out, ← S4.out, ← S5.out, ← S6.out, ← S7.out]; rfl
    · have := Ok.ofL hS.out
      rw [← S0.out, ← S1.out, ← S2.out, ← S3.out, ← S4.out, ← S5.out, ← S6.out, ← S7.out]; exact this
  case round =>
    clear c0 c1 c2 c3 c4 c5 c6 c7
    obtain ⟨n, a, b', c, d, e, f, g, h, hn, rfl, rfl, rfl, rfl, rfl, rfl, rfl, rfl, rfl, HR⟩ := hrel
    by_cases hlt : n < 64
    · have ha : a < 4294967296 := HR.out.ok.1
      have he : e < 4294967296 := HR.out.ok.2.2.2.2.1
      have hf : f < 4294967296 := HR.out.ok.2.2.2.2.2.1
      have hg : g < 4294967296 := HR.out.ok.2.2.2.2.2.2.1
      have hb' : b' < 4294967296 := HR.out.ok.2.1
      have hc : c < 4294967296 := HR.out.ok.2.2.1
      have i1 : (0 : Int) ≤ (n : Int) := by omega
      have i2 : (n : Int) < 64 := by omega
      obtain ⟨kt, KT⟩ : ∃ x, Hid (Gs.K.getD n 0 = x) := ⟨_, rfl⟩
      obtain ⟨wt, WT⟩ : ∃ x, Hid (W.getD n 0 = x) := ⟨_, rfl⟩
      have ck : wr.cell? ⟨21, n, none⟩ = some (.int .u32 (kt : Nat)) := by rw [← KT.out]; exact hK.out.below HR.out.aft.bel h0 n hlt
      have cw : wr.cell? ⟨g5, n, none⟩ = some (.int .u32 (wt : Nat)) := by rw [← WT.out]; exact HR.out.aft.sch.cell (by rw [N5.out]; exact hlt)
      go_wp2
      go_still_tail 27, (by kernel_rfl)
      still_call (turn_z e 6 6 rfl he (by decide) (by decide) _)
      repeat still_step
      still_call (turn_z e 11 11 rfl he (by decide) (by decide) _)
      repeat still_step
      still_call (turn_z e 25 25 rfl he (by decide) (by decide) _)
      repeat still_step
      rw [sig1_bits he, choice_bits he hf hg, add_wrap, add_wrap, add_wrap, add_wrap]
      obtain ⟨x1, X1⟩ : ∃ x, Hid (Gs.t1 ⟨a, b', c, d, e, f, g, h⟩ kt wt = x) := ⟨_, rfl⟩
      have X1' : Gs.add (Gs.add (Gs.add (Gs.add h (sig1 e)) (Gs.choice e f g)) kt) wt = x1 := X1.out
      rw [X1']
      clear X1'
      refine wpStill_nil ?_
      generalize hw4 : ({ heap := wr.heap, tape := wr.tape, drawn := wr.drawn + 1, os := wr.os, output := wr.output } : World) = w4
      have hw5 : wr.drewN 1 = w4 := hw4
      have H4 : Hid (Aft w w4 g5 s W) := by rw [← hw5]; exact HR.out.aft.drewN 1
      clear hw4 hw5 ck cw
      go_wp2_with (first
        | (go_at_call 196; (first | refine (turn_z a 2 2 rfl ha (by decide) (by decide) _).mono ?_ | refine (turn_z a 13 13 rfl ha (by decide) (by decide) _).mono ?_ | refine (turn_z a 22 22 rfl ha (by decide) (by decide) _).mono ?_); rintro e' w' ⟨rfl, h9⟩; rw [h9]; clear h9))
      go_roundw
      case rel =>
        refine ⟨n + 1, Gs.add x1 (Gs.t2 ⟨a, b', c, d, e, f, g, h⟩), a, b', c, Gs.add d x1, e, f, g, by omega, by go_num, ?_, rfl, rfl, rfl, ?_, rfl, rfl, rfl, ?_⟩
        · rw [sig0_bits ha, most_bits ha hb' hc, add_mod, add_mod]
          rfl
        · rw [add_mod]
        · refine ⟨H4.out, ?_, ?_⟩
          · show Gs.step (Gs.rounds W (Gs.ofL s) n) (Gs.K.getD n 0) (W.getD n 0) = _
            rw [HR.out.eq, KT.out, WT.out, ← X1.out]
            rfl
          · have := HR.out.ok.step kt wt
            rw [← X1.out]
            exact this
      case measure => simp [intOf]; omega
    · have en0 : n = 64 := by omega
      have en : Hid (n = 64) := en0
      have i2 : ¬ ((n : Int) < 64) := by omega
      clear en0
      have c0 : wr.cell? ⟨w.heap.size, 0, none⟩ = some (.int .u32 (s0 : Nat)) := by rw [← S0.out]; exact HR.out.aft.st.cell (by rw [Ls.out]; omega)
      have c1 : wr.cell? ⟨w.heap.size, 1, none⟩ = some (.int .u32 (s1 : Nat)) := by rw [← S1.out]; exact HR.out.aft.st.cell (by rw [Ls.out]; omega)
      have c2 : wr.cell? ⟨w.heap.size, 2, none⟩ = some (.int .u32 (s2 : Nat)) := by rw [← S2.out]; exact HR.out.aft.st.cell (by rw [Ls.out]; omega)
      have c3 : wr.cell? ⟨w.heap.size, 3, none⟩ = some (.int .u32 (s3 : Nat)) := by rw [← S3.out]; exact HR.out.aft.st.cell (by rw [Ls.out]; omega)
      have c4 : wr.cell? ⟨w.heap.size, 4, none⟩ = some (.int .u32 (s4 : Nat)) := by rw [← S4.out]; exact HR.out.aft.st.cell (by rw [Ls.out]; omega)
      have c5 : wr.cell? ⟨w.heap.size, 5, none⟩ = some (.int .u32 (s5 : Nat)) := by rw [← S5.out]; exact HR.out.aft.st.cell (by rw [Ls.out]; omega)
      have c6 : wr.cell? ⟨w.heap.size, 6, none⟩ = some (.int .u32 (s6 : Nat)) := by rw [← S6.out]; exact HR.out.aft.st.cell (by rw [Ls.out]; omega)
      have c7 : wr.cell? ⟨w.heap.size, 7, none⟩ = some (.int .u32 (s7 : Nat)) := by rw [← S7.out]; exact HR.out.aft.st.cell (by rw [Ls.out]; omega)
      obtain ⟨m0, M0⟩ : ∃ x, Hid (Gs.add s0 a = x) := ⟨_, rfl⟩
      have e0 : ((s0 : Int) + (a : Int)) % 4294967296 = (m0 : Int) := by rw [add_mod, M0.out]
      obtain ⟨m1, M1⟩ : ∃ x, Hid (Gs.add s1 b' = x) := ⟨_, rfl⟩
      have e1 : ((s1 : Int) + (b' : Int)) % 4294967296 = (m1 : Int) := by rw [add_mod, M1.out]
      obtain ⟨m2, M2⟩ : ∃ x, Hid (Gs.add s2 c = x) := ⟨_, rfl⟩
      have e2 : ((s2 : Int) + (c : Int)) % 4294967296 = (m2 : Int) := by rw [add_mod, M2.out]
      obtain ⟨m3, M3⟩ : ∃ x, Hid (Gs.add s3 d = x) := ⟨_, rfl⟩
      have e3 : ((s3 : Int) + (d : Int)) % 4294967296 = (m3 : Int) := by rw [add_mod, M3.out]
      obtain ⟨m4, M4⟩ : ∃ x, Hid (Gs.add s4 e = x) := ⟨_, rfl⟩
      have e4 : ((s4 : Int) + (e : Int)) % 4294967296 = (m4 : Int) := by rw [add_mod, M4.out]
      obtain ⟨m5, M5⟩ : ∃ x, Hid (Gs.add s5 f = x) := ⟨_, rfl⟩
      have e5 : ((s5 : Int) + (f : Int)) % 4294967296 = (m5 : Int) := by rw [add_mod, M5.out]
      obtain ⟨m6, M6⟩ : ∃ x, Hid (Gs.add s6 g = x) := ⟨_, rfl⟩
      have e6 : ((s6 : Int) + (g : Int)) % 4294967296 = (m6 : Int) := by rw [add_mod, M6.out]
      obtain ⟨m7, M7⟩ : ∃ x, Hid (Gs.add s7 h = x) := ⟨_, rfl⟩
      have e7 : ((s7 : Int) + (h : Int)) % 4294967296 = (m7 : Int) := by rw [add_mod, M7.out]
      have RO : Hid (Arr .u32 237 wr (w.heap.size + 1 + 1) Z8) := HR.out.aft.out
      have RE : Hid (Arr .u32 237 (wr.setRow (w.heap.size + 1 + 1) (cs .u32 [m0, m1, m2, m3, m4, m5, m6, m7])) (w.heap.size + 1 + 1) [m0, m1, m2, m3, m4, m5, m6, m7]) := HR.out.aft.out.setRow _
      have BE : Hid (Below w.heap.size w (wr.setRow (w.heap.size + 1 + 1) (cs .u32 [m0, m1, m2, m3, m4, m5, m6, m7]))) := (Oth.setRow _).below HR.out.aft.bel (by omega)
      have VE : Hid ([m0, m1, m2, m3, m4, m5, m6, m7] = Gs.after s b) := by
        have hr := HR.out.eq
        rw [en.out, W5.out] at hr
        unfold Gs.after
        rw [hr, ← M0.out, ← M1.out, ← M2.out, ← M3.out, ← M4.out, ← M5.out, ← M6.out, ← M7.out, ← S0.out, ← S1.out, ← S2.out, ← S3.out, ← S4.out, ← S5.out, ← S6.out, ← S7.out]
        exact rfl
      clear HR
      go_wp2_with (refine wpList_st0 (t := 237) (l := Z8) (l2 := [m0, m1, m2, m3, m4, m5, m6, m7]) (by rfl) (by rfl) 237 (.tmp 4) (.tmp 130) (by rfl) (by rfl) (by rfl) RO sz53 (by rfl) ?_)
      refine bodyPost_ret (v := .agg (cs .u32 [m0, m1, m2, m3, m4, m5, m6, m7])) (res_arr (by rfl) (by rfl) RE.out und53 sz53) rfl ?_
      exact ⟨_, rfl, VE.out, BE.out⟩
end Go.Proofs.YtkdgakcmhnadfaaGreatDoor

/- Se -/
/- What 'counting', 'digest' and 'start' do to a machine, for all blocks and states. -/
namespace Go.Proofs.YtkdgakcmhnadfaaGreatDoor
open Go.ChangeShapes Go.WideShapes Go.ChangeAt Go.RowKit
set_option linter.unusedVariables false
set_option linter.unusedSimpArgs false
/- a store of a whole array into a block of its own -/
theorem wpList_st1 {ops : Array Oper} {rest : List Oper} {o : Oper} {a : Act} {Q : Exit → Act → World → Prop} {w : World} {k : IntKind} {t : TypeId} {g : Nat} {l l2 : List Nat} (hgd : o.guard = none) (hd : o.dst = none) (ty : TypeId) (x y : Operand)
    (ho : o.op = .store ty x y) (hx : a.eval x = .pointer (some ⟨g, 0, none⟩)) (hy : a.eval y = .agg (cs k l2)) (hr : Hid (Arr k t w g l)) (hi : (Tryz.prog.info? ty).map (·.size) = some l2.length) (hl : l.length = l2.length)
    (h : wpList Tryz.prog ops Q rest a (w.setRow g (cs k l2))) : wpList Tryz.prog ops Q (o :: rest) a w :=
  wpList_st hgd ty x y ho hx hy hr hi hl (by rw [hd]; exact h)
/- a store of one byte into an array -/
theorem wpList_stc {ops : Array Oper} {rest : List Oper} {o : Oper} {a : Act} {Q : Exit → Act → World → Prop} {w : World} {t : TypeId} {g i : Nat} {l : List Nat} {v : Int} (hgd : o.guard = none) (hd : o.dst = none) (x y : Operand)
    (ho : o.op = .store 5 x y) (hx : a.eval x = .pointer (some ⟨g, i, none⟩)) (hy : a.eval y = .int .u8 v) (hr : Hid (Arr .u8 t w g l)) (hi : i < l.length)
    (h : wpList Tryz.prog ops Q rest a (w.setCell ⟨g, i, none⟩ (.int .u8 v))) : wpList Tryz.prog ops Q (o :: rest) a w := by
  refine wpList_plain hgd fun K hK => ?_
  have c := hr.out.cell hi
  have f := hr.out.frozen i
  have h2 := hK _ _ h
  unfold Oper.wp execOp
  simp only [ho, hx, hy, Instr.storeAt, Instr.sureAddr, Sem.run_bind, Sem.run_pure, Result.andThen_ok]
  have hs : (storeVar 5 ⟨g, i, none⟩ (.int .u8 v)).run Tryz.prog w = .ok () (w.setCell ⟨g, i, none⟩ (.int .u8 v)) := by
    simp [go_sem, storeVar, c, f]
  rw [hs]
  show K (a.put o.dst undef) _
  rw [hd]
  exact h2
theorem two (w : World) (o1 o2 : Obj) : ((w.alloc o1).alloc o2).heap[w.heap.size]? = some o1 ∧ ((w.alloc o1).alloc o2).heap[w.heap.size + 1]? = some o2 := by
  have e1 : (w.alloc o1).heap.size = w.heap.size + 1 := by simp
  refine ⟨?_, ?_⟩
  · rw [Below.heap_alloc _ _ _ (by omega), heap_alloc_new]
  · rw [← e1, heap_alloc_new]
theorem below2 (w : World) (o1 o2 : Obj) : Below w.heap.size w ((w.alloc o1).alloc o2) := by
  have h1 := (Below.refl w.heap.size w).alloc (Nat.le_refl _) o1
  exact h1.alloc h1.size o2
def Zb64 : List Nat := List.replicate 64 0
structure Cnt (w wr : World) (l : List Nat) : Prop where
  st : Arr .u8 240 wr w.heap.size l
  out : Arr .u8 240 wr (w.heap.size + 1) Zb64
  bel : Below w.heap.size w wr
theorem countN_length (b : List Nat) (c n : Nat) : (Gs.countN b c n).length = b.length := by
  induction n with
  | zero => rfl
  | succ n ih => simp [Gs.countN, ih]
theorem Cnt.set {w wr : World} {l : List Nat} (h : Cnt w wr l) (i x : Nat) : Cnt w (wr.setCell ⟨w.heap.size, i, none⟩ (.int .u8 (x : Nat))) (l.set i x) := by
  have o : Oth w.heap.size wr (wr.setCell ⟨w.heap.size, i, none⟩ (.int .u8 (x : Nat))) := (Oth.refl _ wr).setCell i _
  exact ⟨h.st.set i x, h.out.oth o (by omega), o.below h.bel (Nat.le_refl _)⟩
set_option maxRecDepth 20000 in
set_option maxHeartbeats 2000000 in
theorem counting_n (b : List Nat) (len : Nat) (hb : b.length = 64) (hl : len < 9223372036854775808) (w : World) :
    Calls Tryz.prog 174 #[.agg (cs .u8 b), .int .i64 (len : Int)] w fun e w' => ∃ l, e = .returned (.agg (cs .u8 l)) ∧ Hid (l = Gs.counting b len ∧ Below w.heap.size w w') := by
  have Lb : Hid (b.length = 64) := hb
  clear hb
  obtain ⟨c, C⟩ : ∃ c, Hid (len * 8 % 18446744073709551616 = c) := ⟨_, rfl⟩
  have ec : IntKind.u64.wrap ((len : Int) * 8) = (c : Int) := by
    have h : IntKind.u64.wrap ((len : Int) * 8) = ((len : Int) * 8) % 18446744073709551616 := by simp [IntKind.wrap, IntKind.bits, IntKind.signed]
    rw [h, ← C.out]; omega
  go_enter Tryz.func174, Tryz.ntmps174
  go_wp2
  go_loopw [6, 5] (fun ti tc wr => ∃ n i x : Nat, i + n = 63 ∧ n ≤ 8 ∧ ti = .int .i64 i ∧ tc = .int .u64 x ∧ Hid (x = c / 256 ^ n ∧ Cnt w wr (Gs.countN b c n))) (fun ti _ _ => (intOf ti).toNat)
  case atStart => exact ⟨0, 63, c, rfl, by omega, rfl, rfl, by simp, (two w _ _).1, (two w _ _).2, below2 w _ _⟩
  case round =>
    obtain ⟨n, i, x, hi, hn, rfl, rfl, HC⟩ := hrel
    by_cases hlt : n < 8
    · have i1 : (0 : Int) ≤ (i : Int) := by omega
      have i2 : (i : Int) < 64 := by omega
      have i3 : (56 : Int) ≤ (i : Int) := by omega
      obtain ⟨z, hz⟩ : ∃ z : Nat, wr.cell? ⟨w.heap.size, i, none⟩ = some (.int .u8 z) := ⟨_, HC.out.2.st.cell (by rw [countN_length, Lb.out]; omega)⟩
      have f0 : wr.frozen? ⟨w.heap.size, i, none⟩ = false := HC.out.2.st.frozen i
      go_wp2
      go_roundw
      case rel =>
        refine ⟨n + 1, i - 1, x / 256, by omega, by omega, by rw [show ((i : Int) - 1) = ((i - 1 : Nat) : Int) from by omega], by simp, ?_, ?_⟩
        · rw [HC.out.1, Nat.div_div_eq_div_mul, Nat.pow_succ]
        · have h := HC.out.2.set i (x % 256)
          have e : Gs.countN b c (n + 1) = (Gs.countN b c n).set i (x % 256) := by
            show (Gs.countN b c n).set (63 - n) (c / 256 ^ n % 256) = _
            rw [HC.out.1, show 63 - n = i from by omega]
          rw [e]
          have e2 : ((x % 256 : Nat) : Int) = (x : Int) % 256 := by simp
          rw [← e2]
          exact h
      case measure => simp [intOf]; omega
    · have i3 : ¬ ((56 : Int) ≤ (i : Int)) := by omega
      have en : n = 8 := by omega
      subst en
      obtain ⟨l, Hl⟩ : ∃ l, Hid (Gs.countN b c 8 = l) := ⟨_, rfl⟩
      have N : Hid (l.length = 64) := by rw [← Hl.out, countN_length]; exact Lb.out
      have HC2 : Hid (Cnt w wr l) := by rw [← Hl.out]; exact HC.out.2
      have R1 : Hid (Rng .u8 wr w.heap.size 0 l) := HC2.out.st.rng
      have R2 : Hid (Arr .u8 240 wr (w.heap.size + 1) Zb64) := HC2.out.out
      have RE : Hid (Arr .u8 240 (wr.setRow (w.heap.size + 1) (cs .u8 l)) (w.heap.size + 1) l) := HC2.out.out.setRow l
      have BE : Hid (Below w.heap.size w (wr.setRow (w.heap.size + 1) (cs .u8 l))) := (Oth.setRow _).below HC2.out.bel (by omega)
      have VE : Hid (l = Gs.counting b len) := by
        show l = Gs.countN b (len * 8 % 18446744073709551616) 8
        rw [C.out, Hl.out]
      clear HC HC2
      go_wp2_with (first | (refine wpList_ld (by rfl) 240 (.tmp 2) (by rfl) (by rfl) R1 und56 (by rw [N.out]; exact sz56) ?_) | (refine wpList_st1 (t := 240) (l := Zb64) (by rfl) (by rfl) 240 (.tmp 4) (.tmp 20) (by rfl) (by rfl) (by rfl) R2 (by rw [N.out]; exact sz56) (by rw [N.out]; rfl) ?_))
      refine bodyPost_ret (v := .agg (cs .u8 l)) (res_arr (by rfl) (by rfl) RE.out und56 (by rw [N.out]; exact sz56)) rfl ?_
      exact ⟨l, rfl, VE.out, BE.out⟩
theorem index_arr (s : List Nat) (hs : s.length = 8) (k : Nat) (hk : k < 8) (w : World) : (Instr.index 237 (.agg (cs .u32 s)) (.int .i64 (k : Int))).run Tryz.prog w = .ok (.int .u32 ((s.getD k 0 : Nat) : Int)) w := by
  have h1 : (0 : Int) ≤ (k : Int) ∧ (k : Int) < 8 := by omega
  have h2 : (cs .u32 s)[k]? = some (.int .u32 ((s.getD k 0 : Nat) : Int)) := by
    have : k < s.length := by omega
    simp [cs, wv, List.getD, this]
  simp [Instr.index, run_underlying Tryz.underlying237, asIntOf, part, go_sem, h1, h2]
  intro h
  omega
end Go.Proofs.YtkdgakcmhnadfaaGreatDoor

/- Sf -/
/- What 'digest' does to a machine, for all states. -/
namespace Go.Proofs.YtkdgakcmhnadfaaGreatDoor
open Go.ChangeShapes Go.WideShapes Go.ChangeAt Go.RowKit
set_option linter.unusedVariables false
set_option linter.unusedSimpArgs false
def Zb32 : List Nat := List.replicate 32 0
structure Dig (w wr : World) (s l : List Nat) : Prop where
  st : Arr .u32 237 wr w.heap.size s
  out : Arr .u8 89 wr (w.heap.size + 1) Zb32
  acc : Arr .u8 89 wr (w.heap.size + 1 + 1) (ext l 32)
  bel : Below w.heap.size w wr
theorem ext_set' {l : List Nat} {k n x : Nat} (h : l.length = k) (hk : k < n) : (ext l n).set k x = ext (l ++ [x]) n := by
  subst h
  obtain ⟨m, hm⟩ : ∃ m, n - l.length = m + 1 := ⟨n - l.length - 1, by omega⟩
  have hm2 : n - (l.length + 1) = m := by omega
  simp [ext, hm, hm2, List.replicate_succ]
theorem Dig.snoc {w wr : World} {s l : List Nat} {k x : Nat} (h : Dig w wr s l) (hl : l.length = k) (hk : k < 32) :
    Dig w (wr.setCell ⟨w.heap.size + 1 + 1, k, none⟩ (.int .u8 (x : Int))) s (l ++ [x]) := by
  have o : Oth (w.heap.size + 1 + 1) wr (wr.setCell ⟨w.heap.size + 1 + 1, k, none⟩ (.int .u8 (x : Int))) := (Oth.refl _ wr).setCell k _
  refine ⟨h.st.oth o (by omega), h.out.oth o (by omega), ?_, o.below h.bel (by omega)⟩
  rw [← ext_set' hl hk]
  exact h.acc.set k x
theorem digestN_length (s : List Nat) (k : Nat) : (Gs.digestN s k).length = 4 * k := by
  induction k with
  | zero => rfl
  | succ k ih => simp [Gs.digestN, ih, Gs.bytesW]; omega
set_option maxRecDepth 20000 in
set_option maxHeartbeats 2000000 in
theorem digest_n (s : List Nat) (hs : s.length = 8) (w : World) :
    Calls Tryz.prog 175 #[.agg (cs .u32 s)] w fun e w' => ∃ l, e = .returned (.agg (cs .u8 l)) ∧ Hid (l = Gs.digest s ∧ Below w.heap.size w w') := by
  have Ls : Hid (s.length = 8) := hs
  have R1 : ∀ o2 o3, Hid (Rng .u32 (((w.alloc (.cells (cs .u32 s) 237)).alloc o2).alloc o3) w.heap.size 0 s) := fun o2 o3 => Arr.rng (k := .u32) (t := 237) (three w _ o2 o3).1
  clear hs
  go_enter Tryz.func175, Tryz.ntmps175
  go_wp2_with (refine wpList_ld (by rfl) 237 (.tmp 1) (by rfl) (by rfl) (R1 _ _) und53 (by rw [Ls.out]; exact sz53) ?_)
  clear R1
  go_loopw [7] (fun ti wr => ∃ k : Nat, k ≤ 8 ∧ ti = .int .i64 k ∧ Hid (Dig w wr s (Gs.digestN s k))) (fun ti _ => 8 - (intOf ti).toNat)
  case atStart => exact ⟨0, by omega, rfl, (three w _ _ _).1, (three w _ _ _).2.1, (three w _ _ _).2.2, below3 w _ _ _⟩
  case round =>
    obtain ⟨k, hk, rfl, HK⟩ := hrel
    by_cases hlt : k < 8
    · have i1 : (0 : Int) ≤ (k : Int) := by omega
      have i2 : (k : Int) < 8 := by omega
      obtain ⟨x, X⟩ : ∃ x, Hid (s.getD k 0 = x) := ⟨_, rfl⟩
      have IX : ∀ w', (Instr.index 237 (.agg (cs .u32 s)) (.int .i64 (k : Int))).run Tryz.prog w' = .ok (.int .u32 (x : Int)) w' := fun w' => by rw [← X.out]; exact index_arr s Ls.out k hlt w'
      obtain ⟨p, hp⟩ : ∃ p, p = 4 * k := ⟨_, rfl⟩
      have hp1 : (4 : Int) * (k : Int) = (p : Int) := by omega
      have hp2 : p + 3 < 32 := by omega
      have q0 : IntKind.i64.wrap (p : Int) = (p : Int) := by rw [IntKind.wrap_i64]; omega
      obtain ⟨l, Hl⟩ : ∃ l, Hid (Gs.digestN s k = l) := ⟨_, rfl⟩
      have LL : Hid (l.length = p) := by rw [← Hl.out, digestN_length, hp]; exact rfl
      rw [Hl.out] at HK
      have HP : Hid (p = 4 * k) := hp
      clear hp
      obtain ⟨v0, V0⟩ : ∃ v, Hid (x / 16777216 % 256 = v) := ⟨_, rfl⟩
      obtain ⟨v1, V1⟩ : ∃ v, Hid (x / 65536 % 256 = v) := ⟨_, rfl⟩
      obtain ⟨v2, V2⟩ : ∃ v, Hid (x / 256 % 256 = v) := ⟨_, rfl⟩
      obtain ⟨v3, V3⟩ : ∃ v, Hid (x % 256 = v) := ⟨_, rfl⟩
      have e0 : (x : Int) / 16777216 % 256 = (v0 : Int) := by rw [← V0.out]; omega
      have e1 : (x : Int) / 65536 % 256 = (v1 : Int) := by rw [← V1.out]; omega
      have e2 : (x : Int) / 256 % 256 = (v2 : Int) := by rw [← V2.out]; omega
      have e3 : (x : Int) % 256 = (v3 : Int) := by rw [← V3.out]; omega
      have D0 : Hid (Dig w wr s l) := HK.out
      obtain ⟨w1, H1⟩ : ∃ w1, Hid (wr.setCell ⟨w.heap.size + 1 + 1, p, none⟩ (.int .u8 (v0 : Int)) = w1) := ⟨_, rfl⟩
      have D1 : Hid (Dig w w1 s (l ++ [v0])) := by rw [← H1.out]; exact D0.out.snoc LL.out (by omega)
      obtain ⟨w2, H2⟩ : ∃ w2, Hid (w1.setCell ⟨w.heap.size + 1 + 1, p + 1, none⟩ (.int .u8 (v1 : Int)) = w2) := ⟨_, rfl⟩
      have D2 : Hid (Dig w w2 s (l ++ [v0] ++ [v1])) := by rw [← H2.out]; exact D1.out.snoc (by simp [LL.out]) (by omega)
      obtain ⟨w3, H3⟩ : ∃ w3, Hid (w2.setCell ⟨w.heap.size + 1 + 1, p + 2, none⟩ (.int .u8 (v2 : Int)) = w3) := ⟨_, rfl⟩
      have D3 : Hid (Dig w w3 s (l ++ [v0] ++ [v1] ++ [v2])) := by rw [← H3.out]; exact D2.out.snoc (by simp [LL.out]) (by omega)
      obtain ⟨w4, H4⟩ : ∃ w4, Hid (w3.setCell ⟨w.heap.size + 1 + 1, p + 3, none⟩ (.int .u8 (v3 : Int)) = w4) := ⟨_, rfl⟩
      have D4 : Hid (Dig w w4 s (l ++ [v0] ++ [v1] ++ [v2] ++ [v3])) := by rw [← H4.out]; exact D3.out.snoc (by simp [LL.out]) (by omega)
      have A0 : Hid (Arr .u8 89 wr (w.heap.size + 1 + 1) (ext l 32)) := D0.out.acc
      have A1 : Hid (Arr .u8 89 w1 (w.heap.size + 1 + 1) (ext (l ++ [v0]) 32)) := D1.out.acc
      have A2 : Hid (Arr .u8 89 w2 (w.heap.size + 1 + 1) (ext (l ++ [v0] ++ [v1]) 32)) := D2.out.acc
      have A3 : Hid (Arr .u8 89 w3 (w.heap.size + 1 + 1) (ext (l ++ [v0] ++ [v1] ++ [v2]) 32)) := D3.out.acc
      have N0 : Hid ((ext l 32).length = 32) := ext_length _ _ (by rw [LL.out]; omega)
      have N1 : Hid ((ext (l ++ [v0]) 32).length = 32) := ext_length _ _ (by simp [LL.out]; omega)
      have N2 : Hid ((ext (l ++ [v0] ++ [v1]) 32).length = 32) := ext_length _ _ (by simp [LL.out]; omega)
      have N3 : Hid ((ext (l ++ [v0] ++ [v1] ++ [v2]) 32).length = 32) := ext_length _ _ (by simp [LL.out]; omega)
      clear HK D0 D1 D2 D3
      go_wp2_with (first
        | (refine wpList_stc (by rfl) (by rfl) (.tmp 16) (.tmp 15) (by rfl) (by rfl) (by rfl) A0 (by rw [N0.out]; omega) ?_; rw [e0, H1.out])
        | (refine wpList_stc (by rfl) (by rfl) (.tmp 23) (.tmp 22) (by rfl) (by rfl) (by rfl) A1 (by rw [N1.out]; omega) ?_; rw [e1, H2.out])
        | (refine wpList_stc (by rfl) (by rfl) (.tmp 30) (.tmp 29) (by rfl) (by rfl) (by rfl) A2 (by rw [N2.out]; omega) ?_; rw [e2, H3.out])
        | (refine wpList_stc (by rfl) (by rfl) (.tmp 36) (.tmp 35) (by rfl) (by rfl) (by rfl) A3 (by rw [N3.out]; omega) ?_; rw [e3, H4.out]))
      go_roundw
      case rel =>
        refine ⟨k + 1, by omega, by go_num, ?_⟩
        have e : Gs.digestN s (k + 1) = l ++ [v0] ++ [v1] ++ [v2] ++ [v3] := by
          show Gs.digestN s k ++ Gs.bytesW (s.getD k 0) = _
          rw [Hl.out, X.out, ← V0.out, ← V1.out, ← V2.out, ← V3.out]
          simp [Gs.bytesW]
        rw [e]
        exact D4.out
      case measure => simp [intOf]; omega
    · have i2 : ¬ ((k : Int) < 8) := by omega
      have ek : k = 8 := by omega
      subst ek
      obtain ⟨l, Hl⟩ : ∃ l, Hid (Gs.digestN s 8 = l) := ⟨_, rfl⟩
      have N : Hid (l.length = 32) := by rw [← Hl.out, digestN_length]; exact rfl
      rw [Hl.out] at HK
      have e1 : ext l 32 = l := by simp [ext, N.out]
      have R1 : Hid (Rng .u8 wr (w.heap.size + 1 + 1) 0 l) := by have := HK.out.acc; rw [e1] at this; exact this.rng
      have R2 : Hid (Arr .u8 89 wr (w.heap.size + 1) Zb32) := HK.out.out
      have RE : Hid (Arr .u8 89 (wr.setRow (w.heap.size + 1) (cs .u8 l)) (w.heap.size + 1) l) := HK.out.out.setRow l
      have BE : Hid (Below w.heap.size w (wr.setRow (w.heap.size + 1) (cs .u8 l))) := (Oth.setRow _).below HK.out.bel (by omega)
      have VE : Hid (l = Gs.digest s) := Hl.out.symm
      clear HK e1
      go_wp2_with (first | (refine wpList_ld (by rfl) 89 (.tmp 3) (by rfl) (by rfl) R1 und25 (by rw [N.out]; exact sz25) ?_) | (refine wpList_st1 (t := 89) (l := Zb32) (by rfl) (by rfl) 89 (.tmp 2) (.tmp 38) (by rfl) (by rfl) (by rfl) R2 (by rw [N.out]; exact sz25) (by rw [N.out]; rfl) ?_))
      refine bodyPost_ret (v := .agg (cs .u8 l)) (res_arr (by rfl) (by rfl) RE.out und25 (by rw [N.out]; exact sz25)) rfl ?_
      exact ⟨l, rfl, VE.out, BE.out⟩
end Go.Proofs.YtkdgakcmhnadfaaGreatDoor
