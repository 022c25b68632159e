/- What the Go function RsLinear does, for all numbers and lists: it returns true, and changes nothing that was there. -/
import Derived.Test.YtokkjdgfhpocdaaDoorEn
namespace Go.Proofs.YtokkjdgfhpocdaaDoor
open Go.ChangeShapes Go.WideShapes Go.ChangeAt Go.RowKit
set_option linter.unusedVariables false
set_option linter.unusedSimpArgs false
set_option linter.unnecessarySimpa false
/- the box that holds the struct -/
structure Bx (w : World) (p : Nat) (v0 v1 v2 v3 v4 : Value) : Prop where
  c0 : w.cell? ⟨p, 0, none⟩ = some v0
  c1 : w.cell? ⟨p, 1, none⟩ = some v1
  c2 : w.cell? ⟨p, 2, none⟩ = some v2
  c3 : w.cell? ⟨p, 3, none⟩ = some v3
  c4 : w.cell? ⟨p, 4, none⟩ = some v4
theorem Bx.below {w w' : World} {p : Nat} {v0 v1 v2 v3 v4 : Value} (h : Bx w p v0 v1 v2 v3 v4) (hb : Below w.heap.size w w') : Bx w' p v0 v1 v2 v3 v4 :=
  have hp := cell_lt' h.c0
  ⟨(hb.cell (p := ⟨p, 0, none⟩) hp).trans h.c0, (hb.cell (p := ⟨p, 1, none⟩) hp).trans h.c1, (hb.cell (p := ⟨p, 2, none⟩) hp).trans h.c2, (hb.cell (p := ⟨p, 3, none⟩) hp).trans h.c3, (hb.cell (p := ⟨p, 4, none⟩) hp).trans h.c4⟩
theorem Bx.new (w : World) (v0 v1 v2 v3 v4 : Value) (t : TypeId) : Bx (w.alloc (.cells #[v0, v1, v2, v3, v4] t)) w.heap.size v0 v1 v2 v3 v4 :=
  ⟨by simp, by simp, by simp, by simp, by simp⟩
/- the sum of two lists -/
def sumL (a b : List Nat) (n : Nat) : List Nat := (List.range n).map fun i => a.getD i 0 ^^^ b.getD i 0
def sumP (a b : List Nat) (n i : Nat) : List Nat := (sumL a b n).take i ++ List.replicate (n - i) 0
theorem sumP_set {a b : List Nat} {n i : Nat} (hi : i < n) : (sumP a b n i).set i (a.getD i 0 ^^^ b.getD i 0) = sumP a b n (i + 1) := by
  unfold sumP
  have hl : ((sumL a b n).take i).length = i := by simp [sumL]; omega
  have h3 : n - i = (n - (i + 1)) + 1 := by omega
  rw [h3, List.replicate_succ, List.set_append_right _ _ (by omega), hl, Nat.sub_self, List.set_cons_zero, take_succ_getD (by simp [sumL]; omega)]
  have e : (sumL a b n).getD i 0 = a.getD i 0 ^^^ b.getD i 0 := by simp [sumL, List.getD, hi]
  rw [e]
  simp
theorem sumP_length {a b : List Nat} {n i : Nat} (hi : i ≤ n) : (sumP a b n i).length = n := by simp [sumP, sumL]; omega
theorem sumL_lt {a b : List Nat} {n : Nat} (ha : ∀ x ∈ a, x < 256) (hb : ∀ x ∈ b, x < 256) : ∀ x ∈ sumL a b n, x < 256 := by
  intro x hx
  simp [sumL] at hx
  obtain ⟨i, _, rfl⟩ := hx
  have h1 := getD_lt ha i
  have h2 := getD_lt hb i
  simp only [List.getD] at h1 h2
  exact Gm.xor_lt _ _ h1 h2
theorem sumL_getD {a b : List Nat} {n i : Nat} (ha : n = a.length) (hb : n = b.length) : (sumL a b n).getD i 0 = a.getD i 0 ^^^ b.getD i 0 := by
  by_cases hi : i < n
  · simp [sumL, List.getD, hi]
  · rw [getD_out (by simp [sumL]; omega), getD_out (by omega), getD_out (by omega)]; rfl
/- the shards of a sum are the sums of the shards, byte by byte -/
theorem dsh_getD (size : Nat) (data : List Nat) (j b : Nat) (hb : b < size) : (dsh size data j).getD b 0 = data.getD (j * size + b) 0 := by
  unfold dsh
  rw [ext_getD]
  simp only [List.getD]
  rw [List.getElem?_take_of_lt hb, List.getElem?_drop]
theorem parN_lin (k number size : Nat) (A B C : List (List Nat)) (hn : number < 16) (j : Nat) (hj : j ≤ 16) (h : ∀ i, i < j → ∀ b, b < size → (C.getD i []).getD b 0 = (A.getD i []).getD b 0 ^^^ (B.getD i []).getD b 0) :
    ∀ b, b < size → (parN k number size C j).getD b 0 = (parN k number size A j).getD b 0 ^^^ (parN k number size B j).getD b 0 := by
  induction j with
  | zero =>
    intro b hb
    have e : (List.replicate size 0).getD b 0 = 0 := by simp [List.getD, hb]
    simp only [parN]; rw [e]; rfl
  | succ j ih =>
    intro b hb
    simp only [parN]
    rw [addSc_getD, addSc_getD, addSc_getD, ih (by omega) (fun i hi => h i (by omega)) b hb, h j (by omega) b hb, Gm.mul_add]
    exact Gm.xor4 _ _ _ _
theorem shard_lin (k size : Nat) (A B C : List Nat) (i : Nat) (hi : i < 16) (hk : k ≤ 16) (h : ∀ x, C.getD x 0 = A.getD x 0 ^^^ B.getD x 0) (b : Nat) (hb : b < size) :
    (shard k size C i).getD b 0 = (shard k size A i).getD b 0 ^^^ (shard k size B i).getD b 0 := by
  unfold shard
  split
  · rw [dsh_getD _ _ _ _ hb, dsh_getD _ _ _ _ hb, dsh_getD _ _ _ _ hb, h]
  · refine parN_lin k i size _ _ _ hi k hk (fun j hj b hb => ?_) b hb
    have e : ∀ D : List Nat, ((List.range k).map (dsh size D)).getD j [] = dsh size D j := fun D => by simp [List.getD, hj]
    rw [e, e, e, dsh_getD _ _ _ _ hb, dsh_getD _ _ _ _ hb, dsh_getD _ _ _ _ hb, h]
theorem sl_take {w : World} {a : Option Addr} {m n : Nat} {l : List Nat} (h : Sln w a m l) (hn : n ≤ m) : Sln w a n (l.take n) := by
  have e := h.len
  refine ⟨by simp; omega, fun x hx => h.lt x (List.mem_of_mem_take hx), by have := h.sli.2.1; simp; omega, ?_⟩
  rcases h.sli.2.2 with h0 | ⟨b, off, h1, h2, h3⟩
  · exact .inl (by rw [h0]; simp)
  · refine .inr ⟨b, off, h1, h2, fun i hi => ?_⟩
    have hi2 : i < n ∧ i < l.length := by simp at hi; omega
    have h4 : (l.take n).getD i 0 = l.getD i 0 := by simp only [List.getD]; rw [List.getElem?_take_of_lt hi2.1]
    rw [h4]
    exact h3 i hi2.2
theorem Lst.drewN {w : World} {g n : Nat} {R : List (List Nat)} (h : Lst w g n R) (q : Nat) : Lst (w.drewN q) g n R := h.below (below_drewN (Below.refl _ _) q)
/- what a row of rows reads as behind Encode, in any later world -/
structure Rd (w : World) (g size : Nat) (k m : Nat) (data : List Nat) : Prop where
  lst : Lst w g size (shards k m data)
theorem shards_getD {k m : Nat} {data : List Nat} {i : Nat} (hi : i < k + m) : (shards k m data).getD i [] = shard k (sz k data.length) data i := by
  simp [shards, List.getD, hi]
set_option maxRecDepth 40000 in
set_option maxHeartbeats 4000000 in
theorem linear_legal (k m nA kA nB kB nP kP : Nat) (aA aB aP : Option Addr) (lA lB : List Nat) (w : World) (h1 : 1 ≤ m) (h2 : m ≤ k) (h3 : k + m ≤ 16) (A : Hid (Sln w aA nA lA)) (B : Hid (Sln w aB nB lB)) (hA : nA ≤ kA) (hB : nB ≤ kB) (mA : kA ≤ 140737488351232) (mB : kB ≤ 140737488351232) :
    Calls Tryd.prog 7 #[.agg #[.int .i64 (k : Int), .int .i64 (m : Int), .slice aA nA kA, .slice aB nB kB, .slice aP nP kP]] w fun e w' => e = .returned (.bool true) ∧ Hid (Below w.heap.size w w') := by
  go_enter Tryd.func7, Tryd.ntmps7
  go_upto_region 3 with (go_at_call 9; refine (alive_any _).mono ?_; rintro e w1 ⟨rfl, H1⟩)
  have HX : Hid (Bx w1 w.heap.size (.int .i64 (k : Int)) (.int .i64 (m : Int)) (.slice aA nA kA) (.slice aB nB kB) (.slice aP nP kP)) := (Bx.new w _ _ _ _ _ _).below H1.out
  have HBL : Hid (Below w.heap.size w w1) := ((Below.refl w.heap.size w).alloc (Nat.le_refl _) _).trans (H1.out.mono (by simp))
  clear H1
  obtain ⟨p, Hp⟩ : ∃ p, Hid (w.heap.size = p) := ⟨_, rfl⟩
  rw [Hp.out] at HX ⊢
  go_cut [3] from 16 (fun t wc => ∃ n : Nat, n ≤ nA ∧ n ≤ nB ∧ n ≤ 1024 ∧ t = .int .i64 n ∧ wc = w1)
  case first =>
    have hx := HX.out
    have c2 := hx.c2
    have c3 := hx.c3
    clear hx
    have z1 : (nA : Int) ≤ 140737488351232 := by omega
    have z2 : (nB : Int) ≤ 140737488351232 := by omega
    clear mA mB hA hB
    go_wp2
    all_goals
      go_meet
      case rel => first | exact ⟨nB, by omega, by omega, by omega, rfl, rfl⟩ | exact ⟨nA, by omega, by omega, by omega, rfl, rfl⟩ | exact ⟨1024, by omega, by omega, by omega, rfl, rfl⟩
  case rest =>
    obtain ⟨n, hn1, hn2, hn3, rfl, rfl⟩ := hcut
    have hx := HX.out
    have c0 := hx.c0
    have c1 := hx.c1
    have mk := make_bytes n (by omega)
    clear hx
    go_upto_region 7 with (go_at_call 11; refine (legal_t k m h1 h2 h3 _).mono ?_; rintro e w0 ⟨rfl, h0⟩; rw [h0]; clear h0)
    obtain ⟨la, Hla⟩ : ∃ la, Hid (lA.take n = la) := ⟨_, rfl⟩
    obtain ⟨lb, Hlb⟩ : ∃ lb, Hid (lB.take n = lb) := ⟨_, rfl⟩
    have A0 : Hid (Sln wc aA n la) := by rw [← Hla.out]; exact sl_take (A.out.below HBL.out) hn1
    have B0 : Hid (Sln wc aB n lb) := by rw [← Hlb.out]; exact sl_take (B.out.below HBL.out) hn2
    obtain ⟨g, Hg⟩ : ∃ g, Hid (wc.heap.size = g) := ⟨_, rfl⟩
    obtain ⟨w2, hw2⟩ : ∃ w2, w2 = wc.alloc (.cells (madeCells #[.int .u8 0] n) 5) := ⟨_, rfl⟩
    have ST : Hid (Blk w2 g (sumP la lb n 0) ∧ Below g wc w2) := by
      rw [hw2, ← Hg.out]
      refine ⟨?_, (Below.refl _ _).alloc (Nat.le_refl _) _⟩
      have h := Blk.made wc n
      have e : sumP la lb n 0 = List.replicate n 0 := by simp [sumP]
      rw [e]; exact h
    rw [← hw2, Hg.out]
    clear hw2 c0 c1 mk A B Hla Hlb
    go_wp2
    go_loopw [33] (fun ti wr => ∃ i : Nat, i ≤ n ∧ ti = .int .i64 (i : Int) ∧ Hid (Blk wr g (sumP la lb n i) ∧ Below g wc wr)) (fun ti _ => n - (intOf ti).toNat)
    case atStart => exact ⟨0, by omega, rfl, ST.out⟩
    case round =>
      obtain ⟨i, hi, rfl, HI⟩ := hrel
      have AW : Hid (Sln wr aA n la) := A0.out.below (by rw [Hg.out]; exact HI.out.2)
      have BW : Hid (Sln wr aB n lb) := B0.out.below (by rw [Hg.out]; exact HI.out.2)
      have XW : Hid (Bx wr p (.int .i64 (k : Int)) (.int .i64 (m : Int)) (.slice aA nA kA) (.slice aB nB kB) (.slice aP nP kP)) := HX.out.below (by rw [Hg.out]; exact HI.out.2)
      clear ST
      by_cases hlt : i < n
      · obtain ⟨bA, oA, rfl, cA⟩ := row_at AW.out hlt
        obtain ⟨bB, oB, rfl, cB⟩ := row_at BW.out hlt
        have c2 := XW.out.c2
        have c3 := XW.out.c3
        obtain ⟨x, Hx⟩ : ∃ x, Hid (la.getD i 0 = x) := ⟨_, rfl⟩
        obtain ⟨y, Hy⟩ : ∃ y, Hid (lb.getD i 0 = y) := ⟨_, rfl⟩
        have hx : x < 256 := by rw [← Hx.out]; exact getD_lt AW.out.lt i
        have hy : y < 256 := by rw [← Hy.out]; exact getD_lt BW.out.lt i
        rw [Hx.out] at cA
        rw [Hy.out] at cB
        have hll := sumP_length (a := la) (b := lb) hi
        have cS := HI.out.1.cell (i := i) (by rw [hll]; exact hlt)
        have fS := HI.out.1.frozen i
        have i1 : (i : Int) < (n : Int) := by omega
        have i2 : (i : Int) < (nA : Int) := by omega
        have i3 : (i : Int) < (nB : Int) := by omega
        have FIN : Hid (Blk (wr.setCell ⟨g, i, none⟩ (.int .u8 ((x ^^^ y : Nat) : Int))) g (sumP la lb n (i + 1)) ∧ Below g wc (wr.setCell ⟨g, i, none⟩ (.int .u8 ((x ^^^ y : Nat) : Int)))) := by
          refine ⟨?_, ((Oth.refl g wr).setCell i _).below HI.out.2 (Nat.le_refl _)⟩
          rw [← sumP_set hlt, Hx.out, Hy.out]
          exact HI.out.1.set i _
        rw [← u8_xor_nat x y hx hy] at FIN
        clear HI AW BW XW hll
        go_wp2
        go_still_tail 14, (by kernel_rfl)
        go_wp2
        go_roundw
        case rel => exact ⟨i + 1, by omega, by go_num, FIN.out.1, FIN.out.2.drew⟩
        case measure => simp [intOf]; omega
      · have e : i = n := by omega
        have SB : Hid (Blk wr g (sumL la lb n)) := by
          have h := HI.out.1
          rw [e] at h
          have e2 : sumP la lb n n = sumL la lb n := by
            unfold sumP
            rw [List.take_of_length_le (by simp [sumL])]; simp
          rw [e2] at h
          exact h
        have LB : Hid (Below w.heap.size w wr) := HBL.out.trans (HI.out.2.mono (by have := HBL.out.size; rw [Hg.out] at this; exact this))
        have hsl : (sumL la lb n).length = n := by simp [sumL]
        have la1 := AW.out.len
        have lb1 := BW.out.len
        have slt := sumL_lt (n := n) AW.out.lt BW.out.lt
        have SS : Hid (Sln wr (some ⟨g, 0, none⟩) n (sumL la lb n)) := ⟨hsl.symm, SB.out.sli slt (by omega)⟩
        have SG : Hid (∀ x, (sumL la lb n).getD x 0 = la.getD x 0 ^^^ lb.getD x 0) := fun x => sumL_getD la1 lb1
        have LAB : Hid (n = la.length ∧ n = lb.length ∧ n = (sumL la lb n).length) := ⟨la1, lb1, hsl.symm⟩
        obtain ⟨lc, Hlc⟩ : ∃ lc, Hid (sumL la lb n = lc) := ⟨_, rfl⟩
        rw [Hlc.out] at SS SG LAB
        subst e
        have c0 := XW.out.c0
        have c1 := XW.out.c1
        have c2 := XW.out.c2
        have c3 := XW.out.c3
        have z1 : (i : Int) ≤ (kA : Int) := by omega
        have z2 : (i : Int) ≤ (kB : Int) := by omega
        clear HI SB hsl la1 lb1 slt HX HBL A0 B0 Hlc hn1 hn2 hA hB
        have AD : Hid (Sln wr.drew aA i la) := AW.out.drew
        have hmi : i ≤ 140737488351232 := by omega
        go_wp2
        go_region_held (fun w' => w'.cell? ⟨p, 0, none⟩ = some (.int .i64 (k : Int)) ∧ w'.cell? ⟨p, 1, none⟩ = some (.int .i64 (m : Int)) ∧ w'.cell? ⟨p, 2, none⟩ = some (.slice aA nA kA) ∧ w'.cell? ⟨p, 3, none⟩ = some (.slice aB nB kB)) (go_keep) (first | (go_at_call 16; refine (encode_ok k m i i aA la _ h1 h2 h3 hn3 AD (Nat.le_refl _) hmi).mono ?_; rintro e w3 ⟨g1, bs1, cap1, rfl, H3⟩; have X3 : Hid (Bx w3 p (.int .i64 (k : Int)) (.int .i64 (m : Int)) (.slice aA nA kA) (.slice aB nB kB) (.slice aP nP kP)) := XW.out.below ((Below.refl _ _).drew.trans (H3.out.bel.mono (Nat.le_refl _))); have d0 := X3.out.c0; have d1 := X3.out.c1; have d2 := X3.out.c2; have d3 := X3.out.c3))
        obtain ⟨s, Hs⟩ : ∃ s, Hid (sz k i = s) := ⟨_, rfl⟩
        have hs := sz_le k i (by omega) (by omega) hn3
        rw [Hs.out] at hs
        have L1 : Hid (Lst w3 g1 s (shards k m la)) := by
          have h := own_lst H3.out.own H3.out.shs
          rw [← LAB.out.1, Hs.out] at h
          exact h
        have LB3 : Hid (Below w.heap.size w w3) := LB.out.drew.trans (H3.out.bel.mono LB.out.drew.size)
        have BD : Hid (Sln w3.drew aB i lb) := (BW.out.drew.below H3.out.bel).drew
        have SD : Hid (Sln w3 (some ⟨g, 0, none⟩) i lc) := SS.out.drew.below H3.out.bel
        clear H3 AD AW BW SS XW LB c0 c1 c2 c3 z1
        go_wp2
        go_region_held (fun w' => w'.cell? ⟨p, 0, none⟩ = some (.int .i64 (k : Int)) ∧ w'.cell? ⟨p, 1, none⟩ = some (.int .i64 (m : Int)) ∧ w'.cell? ⟨p, 2, none⟩ = some (.slice aA nA kA) ∧ w'.cell? ⟨p, 3, none⟩ = some (.slice aB nB kB)) (go_keep) (first | (go_at_call 16; refine (encode_ok k m i i aB lb _ h1 h2 h3 hn3 BD (Nat.le_refl _) hmi).mono ?_; rintro e w4 ⟨g2, bs2, cap2, rfl, H4⟩; have X4 : Hid (Bx w4 p (.int .i64 (k : Int)) (.int .i64 (m : Int)) (.slice aA nA kA) (.slice aB nB kB) (.slice aP nP kP)) := X3.out.below ((Below.refl _ _).drew.trans (H4.out.bel.mono (Nat.le_refl _))); have d0 := X4.out.c0; have d1 := X4.out.c1; have d2 := X4.out.c2; have d3 := X4.out.c3))
        have bw4 : Hid (Below w3.heap.size w3 w4) := (Below.refl _ _).drew.trans (H4.out.bel.mono (Nat.le_refl _))
        have L2 : Hid (Lst w4 g2 s (shards k m lb)) := by
          have h := own_lst H4.out.own H4.out.shs
          rw [← LAB.out.2.1, Hs.out] at h
          exact h
        have L1 : Hid (Lst w4 g1 s (shards k m la)) := L1.out.below bw4.out
        have LB4 : Hid (Below w.heap.size w w4) := LB3.out.trans (bw4.out.mono LB3.out.size)
        have SD : Hid (Sln w4 (some ⟨g, 0, none⟩) i lc) := SD.out.below bw4.out
        clear H4 BD X3 LB3 bw4 z2
        go_wp2_with (go_at_call 16; refine (encode_ok k m i i (some ⟨g, 0, none⟩) lc _ h1 h2 h3 hn3 SD (Nat.le_refl _) hmi).mono ?_; rintro e w5 ⟨g3, bs3, cap3, rfl, H5⟩; have X5 : Hid (Bx w5 p (.int .i64 (k : Int)) (.int .i64 (m : Int)) (.slice aA nA kA) (.slice aB nB kB) (.slice aP nP kP)) := X4.out.below H5.out.bel; have e0 := X5.out.c0; have e1 := X5.out.c1)
        have L3 : Hid (Lst w5 g3 s (shards k m lc)) := by
          have h := own_lst H5.out.own H5.out.shs
          rw [← LAB.out.2.2, Hs.out] at h
          exact h
        have L2 : Hid (Lst w5 g2 s (shards k m lb)) := L2.out.below H5.out.bel
        have L1 : Hid (Lst w5 g1 s (shards k m la)) := L1.out.below H5.out.bel
        have LB5 : Hid (Below w.heap.size w w5) := LB4.out.trans (H5.out.bel.mono LB4.out.size)
        have LIN : Hid (∀ j b, j < k + m → b < s → ((shards k m lc).getD j []).getD b 0 = ((shards k m la).getD j []).getD b 0 ^^^ ((shards k m lb).getD j []).getD b 0) := by
          intro j b hj hb
          rw [shards_getD hj, shards_getD hj, shards_getD hj, ← LAB.out.1, ← LAB.out.2.1, ← LAB.out.2.2, Hs.out]
          exact shard_lin k s la lb lc j (by omega) (by omega) SG.out b hb
        have LEN : Hid (∀ l : List Nat, (shards k m l).length = k + m) := fun l => by simp [shards]
        clear H5 X4 X5 SD LB4 LAB SG Hs d0 d1 d2 d3 e0 e1
        go_loopw [122] (fun ti wr => ∃ j : Nat, j ≤ k + m ∧ ti = .int .i64 (j : Int) ∧ Hid (∃ q, wr = w5.drewN q)) (fun ti _ => k + m - (intOf ti).toNat)
        case atStart => exact ⟨0, by omega, rfl, 0, rfl⟩
        case round =>
          obtain ⟨j, hj, rfl, HJ⟩ := hrel
          by_cases hjl : j < k + m
          · obtain ⟨q1, hq1⟩ := HJ.out
            have R1 : Hid (Lst wr g1 s (shards k m la)) := by rw [hq1]; exact L1.out.drewN q1
            have R2 : Hid (Lst wr g2 s (shards k m lb)) := by rw [hq1]; exact L2.out.drewN q1
            have R3 : Hid (Lst wr g3 s (shards k m lc)) := by rw [hq1]; exact L3.out.drewN q1
            clear hq1
            obtain ⟨b1, f1, B1⟩ := R1.out.c j (by rw [LEN.out]; exact hjl)
            obtain ⟨b2, f2, B2⟩ := R2.out.c j (by rw [LEN.out]; exact hjl)
            obtain ⟨b3, f3, B3⟩ := R3.out.c j (by rw [LEN.out]; exact hjl)
            have S1 : Hid (Blk wr b1 ((shards k m la).getD j []) ∧ Blk wr b2 ((shards k m lb).getD j []) ∧ Blk wr b3 ((shards k m lc).getD j [])) := ⟨B1, B2, B3⟩
            have HL1 : Hid (((shards k m la).getD j []).length = s ∧ ((shards k m lb).getD j []).length = s ∧ ((shards k m lc).getD j []).length = s) := ⟨R1.out.rl j (by rw [LEN.out]; exact hjl), R2.out.rl j (by rw [LEN.out]; exact hjl), R3.out.rl j (by rw [LEN.out]; exact hjl)⟩
            have HB1 : Hid (∀ b, ((shards k m la).getD j []).getD b 0 < 256 ∧ ((shards k m lb).getD j []).getD b 0 < 256) := fun b => ⟨getD_lt (R1.out.lt j (by rw [LEN.out]; exact hjl)) b, getD_lt (R2.out.lt j (by rw [LEN.out]; exact hjl)) b⟩
            have i1 : (j : Int) < (k : Int) + (m : Int) := by omega
            have i2 : (j : Int) < ((k + m : Nat) : Int) := by omega
            clear R1 R2 R3 B1 B2 B3
            go_wp2
            go_quiet (fail)
            have Q6 : Hid (∃ q, wr.drewN nq = w5.drewN q) := by
              obtain ⟨q1, hq1⟩ := HJ.out
              rw [hq1]; exact ⟨_, World.drewN_drewN _ _ _⟩
            obtain ⟨w6, hw6⟩ : ∃ w6, w6 = wr.drewN nq := ⟨_, rfl⟩
            have f6 : w6.cell? ⟨g1, j, none⟩ = some (.slice (some ⟨b1, 0, none⟩) s s) := by rw [hw6, cell_drewN]; exact f1
            rw [← hw6] at Q6 ⊢
            clear hw6 HJ f1 f2 f3 S1 HL1 HB1
            go_wp2
            go_loopw [154] (fun tb wr => ∃ b : Nat, b ≤ s ∧ tb = .int .i64 (b : Int) ∧ Hid (∃ q, wr = w5.drewN q)) (fun tb _ => s - (intOf tb).toNat)
            case atStart => exact ⟨0, by omega, rfl, Q6.out⟩
            case round =>
              obtain ⟨b, hb, rfl, HB⟩ := hrel
              by_cases hbl : b < s
              · obtain ⟨q2, hq2⟩ := HB.out
                have R1 : Hid (Lst wr g1 s (shards k m la)) := by rw [hq2]; exact L1.out.drewN q2
                have R2 : Hid (Lst wr g2 s (shards k m lb)) := by rw [hq2]; exact L2.out.drewN q2
                have R3 : Hid (Lst wr g3 s (shards k m lc)) := by rw [hq2]; exact L3.out.drewN q2
                clear hq2
                have hj1 : j < (shards k m la).length := by rw [LEN.out]; exact hjl
                have hj2 : j < (shards k m lb).length := by rw [LEN.out]; exact hjl
                have hj3 : j < (shards k m lc).length := by rw [LEN.out]; exact hjl
                obtain ⟨d1, f1, B1⟩ := R1.out.c j hj1
                obtain ⟨d2, f2, B2⟩ := R2.out.c j hj2
                obtain ⟨d3, f3, B3⟩ := R3.out.c j hj3
                obtain ⟨x, Hx⟩ : ∃ x, Hid (((shards k m la).getD j []).getD b 0 = x) := ⟨_, rfl⟩
                obtain ⟨y, Hy⟩ : ∃ y, Hid (((shards k m lb).getD j []).getD b 0 = y) := ⟨_, rfl⟩
                have hx : x < 256 := by rw [← Hx.out]; exact getD_lt (R1.out.lt j hj1) b
                have hy : y < 256 := by rw [← Hy.out]; exact getD_lt (R2.out.lt j hj2) b
                have e1 := B1.cell (i := b) (by rw [R1.out.rl j hj1]; exact hbl)
                have e2 := B2.cell (i := b) (by rw [R2.out.rl j hj2]; exact hbl)
                have e3 := B3.cell (i := b) (by rw [R3.out.rl j hj3]; exact hbl)
                rw [LIN.out j b hjl hbl, Hx.out, Hy.out] at e3
                rw [Hx.out] at e1
                rw [Hy.out] at e2
                have xr := u8_xor_nat x y hx hy
                obtain ⟨z, Hz⟩ : ∃ z, Hid (x ^^^ y = z) := ⟨_, rfl⟩
                rw [Hz.out] at e3 xr
                have i3 : (b : Int) < (s : Int) := by omega
                clear R1 R2 R3 B1 B2 B3 hj1 hj2 hj3
                go_wp2
                go_quiet (fail)
                have Q7 : Hid (∃ q, wr.drewN nq = w5.drewN q) := by
                  obtain ⟨q2, hq2⟩ := HB.out
                  rw [hq2]; exact ⟨_, World.drewN_drewN _ _ _⟩
                clear e1 e2 e3 f1 f2 f3 HB
                go_wp2
                go_roundw
                case rel => exact ⟨b + 1, by omega, by go_num, Q7.out⟩
                case measure => simp [intOf]; omega
              · have e : b = s := by omega
                subst e
                go_wp2
                go_roundw
                case rel => exact ⟨j + 1, by omega, by go_num, HB.out⟩
                case measure => simp [intOf]; omega
          · have e : j = k + m := by omega
            have FIN : Hid (Below w.heap.size w wr) := by
              obtain ⟨q1, hq1⟩ := HJ.out
              rw [hq1]; exact below_drewN LB5.out q1
            clear HJ
            subst e
            go_wp2
            go_ret
            exact ⟨rfl, FIN.out⟩
set_option maxRecDepth 20000 in
theorem linear_not (k m : Int) (nA kA nB kB nP kP : Nat) (aA aB aP : Option Addr) (w : World) (wk : (Lit.int .i64 k).wf = true) (wm : (Lit.int .i64 m).wf = true) (hL : ¬ Lgl k m) (hA : nA ≤ 140737488351232) (hB : nB ≤ 140737488351232) :
    Calls Tryd.prog 7 #[.agg #[.int .i64 k, .int .i64 m, .slice aA nA kA, .slice aB nB kB, .slice aP nP kP]] w fun e w' => e = .returned (.bool true) ∧ Hid (Below w.heap.size w w') := by
  have HL : Hid (¬ Lgl k m) := hL
  clear hL
  go_enter Tryd.func7, Tryd.ntmps7
  go_upto_region 3 with (go_at_call 9; refine (alive_any _).mono ?_; rintro e w1 ⟨rfl, H1⟩)
  have HX : Hid (Bx w1 w.heap.size (.int .i64 k) (.int .i64 m) (.slice aA nA kA) (.slice aB nB kB) (.slice aP nP kP)) := (Bx.new w _ _ _ _ _ _).below H1.out
  have HBL : Hid (Below w.heap.size w w1) := ((Below.refl w.heap.size w).alloc (Nat.le_refl _) _).trans (H1.out.mono (by simp))
  clear H1
  have c0 := HX.out.c0
  have c1 := HX.out.c1
  have c2 := HX.out.c2
  have c3 := HX.out.c3
  go_wp2_with (go_at_call 11; refine (legal_f k m wk wm HL.out _).mono ?_; rintro e w0 ⟨rfl, h0⟩; rw [h0]; clear h0)
  all_goals
    go_ret
    exact ⟨rfl, HBL.out⟩
end Go.Proofs.YtokkjdgfhpocdaaDoor
