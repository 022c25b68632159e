/- The code of a message under a key on plain numbers; a copy into an array of bytes; what the marking of a block does to a machine. -/
import Derived.Test.YthkoidfjmbfoiaaDoorSm
namespace Go.Proofs.YthkoidfjmbfoiaaDoor
open Go.ChangeShapes Go.WideShapes Go.ChangeAt Go.RowKit
set_option linter.unusedVariables false
set_option linter.unusedSimpArgs false
namespace Gs
def xorL (b : List Nat) (m : Nat) : List Nat := b.map fun x => x ^^^ m
def kblk (k : List Nat) : List Nat := pad (if 64 < k.length then sum k else k)
def mac (k m : List Nat) : List Nat := sum (xorL (kblk k) 92 ++ sum (xorL (kblk k) 54 ++ m))
def fox : List Nat := [84, 104, 101, 32, 113, 117, 105, 99, 107, 32, 98, 114, 111, 119, 110, 32, 102, 111, 120, 32, 106, 117, 109, 112, 115, 32, 111, 118, 101, 114, 32, 116, 104, 101, 32, 108, 97, 122, 121, 32, 100, 111, 103]
theorem fox_mac : (mac [107, 101, 121] fox).getD 0 0 = 247 ∧ (mac [107, 101, 121] fox).getD 1 0 = 188 ∧ (mac [107, 101, 121] fox).getD 31 0 = 216 := by decide +kernel
end Gs
theorem kblk_length (k : List Nat) : (Gs.kblk k).length = 64 := by
  unfold Gs.kblk
  refine pad_length _ ?_
  split
  · rw [sum_length]; omega
  · omega
theorem kblk_lt {k : List Nat} (h : ∀ x ∈ k, x < 256) : ∀ x ∈ Gs.kblk k, x < 256 := by
  unfold Gs.kblk
  refine pad_lt ?_
  split
  · exact sum_lt k
  · exact h
theorem xorL_length (b : List Nat) (m : Nat) : (Gs.xorL b m).length = b.length := by simp [Gs.xorL]
theorem xorL_lt {b : List Nat} {m : Nat} (h : ∀ x ∈ b, x < 256) (hm : m < 256) : ∀ x ∈ Gs.xorL b m, x < 256 := by
  intro x hx
  obtain ⟨y, hy, rfl⟩ := List.mem_map.1 hx
  exact Nat.xor_lt_two_pow (n := 8) (h y hy) hm
theorem mac_lt (k m : List Nat) : ∀ x ∈ Gs.mac k m, x < 256 := sum_lt _
theorem mac_length (k m : List Nat) : (Gs.mac k m).length = 32 := sum_length _
/- a copy into an array of bytes, from its first place on -/
theorem copy_arr (w : World) (g n dc m c : Nat) (t : TypeId) (a : Option Addr) (L l : List Nat) (hB : Arr .u8 t w g L) (hL : n ≤ L.length) (hS : Sln w a m l) :
    ∃ w1, (Builtin.copy_ #[22, 22] 3 #[.slice (some ⟨g, 0, none⟩) n dc, .slice a m c]).run Tryd.prog w = .ok (goInt (min m n : Nat)) w1 ∧ Arr .u8 t w1 g (l.take n ++ L.drop (min m n)) ∧ Oth g w w1 := by
  have e := hS.len
  by_cases h0 : min m n = 0
  · refine ⟨w, ?_, ?_, Oth.refl _ _⟩
    · rw [run_copy_none (P := Tryd.prog) w 22 22 3 5 _ a n dc m c Tryd.underlying22 size5 h0, h0]; rfl
    · have h1 : l.take n = [] := by
        rcases (by omega : m = 0 ∨ n = 0) with h | h
        · have : l = [] := List.eq_nil_of_length_eq_zero (by omega)
          rw [this]; simp
        · rw [h]; simp
      rw [h1, h0]; simpa using hB
  · have hl0 : l ≠ [] := by intro h; rw [h] at e; simp at e; omega
    obtain ⟨sb, so, rfl, hl, hr⟩ := hS.sli.2.2.resolve_left hl0
    have hcl : ((l.take n).map bv).length = min m n := by simp; omega
    have hrun := run_copy_row (P := Tryd.prog) w 22 22 3 5 g 0 n dc ⟨sb, so, none⟩ m c _ t ((l.take n).map bv) Tryd.underlying22 size5 hB
      (by rw [hcl]) (fun j v hv => by
        have hv2 : (l.map bv)[j]? = some v := by
          rw [List.map_take] at hv
          rw [List.getElem?_take] at hv
          split at hv
          · exact hv
          · cases hv
        exact map_cells hr j v hv2) (by rw [hcl]; simp [cs]; omega) (fun v hv => map_one _ v hv)
    rw [hcl] at hrun
    refine ⟨_, hrun, ?_, ?_⟩
    · have h7 := setRow_heap w g _ ((((cs .u8 L).toList.take 0 ++ (l.take n).map bv ++ (cs .u8 L).toList.drop (0 + min m n)).toArray)) t (0, 0) hB
      refine h7.trans ?_
      have e8 : (bv : Nat → Value) = wv .u8 := rfl
      simp [cs, e8]
    · exact ⟨rfl, rfl, rfl, by simp [World.setRow], fun k hk => by
        simp only [World.setRow]
        rw [Array.getElem?_modify, if_neg (by omega)]⟩
theorem pad_copy {l : List Nat} {m : Nat} (h : m = l.length) (hm : m ≤ 64) : l.take 64 ++ (List.replicate 64 0).drop (min m 64) = Gs.pad l := by
  subst h
  rw [List.take_of_length_le (by omega), Nat.min_eq_left hm, List.drop_replicate]
  rfl
def xorN (b : List Nat) (m : Nat) : Nat → List Nat
  | 0 => b
  | k + 1 => (xorN b m k).set k ((xorN b m k).getD k 0 ^^^ m)
theorem xorN_length (b : List Nat) (m k : Nat) : (xorN b m k).length = b.length := by
  induction k with
  | zero => rfl
  | succ k ih => simp [xorN, ih]
theorem xorN_eq (b : List Nat) (m k : Nat) (h : k ≤ b.length) : xorN b m k = Gs.xorL (b.take k) m ++ b.drop k := by
  induction k with
  | zero => simp [xorN, Gs.xorL]
  | succ k ih =>
    have hk : k < b.length := by omega
    have hl : (Gs.xorL (b.take k) m).length = k := by simp [Gs.xorL]; omega
    obtain ⟨y, t, e1, e2, e3⟩ : ∃ y t, b.drop k = y :: t ∧ b.drop (k + 1) = t ∧ b.take (k + 1) = b.take k ++ [y] := ⟨b[k], b.drop (k + 1), List.drop_eq_getElem_cons hk, rfl, List.take_succ_eq_append_getElem hk⟩
    show (xorN b m k).set k ((xorN b m k).getD k 0 ^^^ m) = _
    have e4 : Gs.xorL (b.take k ++ [y]) m = Gs.xorL (b.take k) m ++ [y ^^^ m] := by simp only [Gs.xorL, List.map_append, List.map_cons, List.map_nil]
    rw [ih (by omega), e1, e2, e3, e4]
    generalize Gs.xorL (b.take k) m = u at hl
    subst hl
    simp [List.getD]
theorem xorN_all {b : List Nat} (m : Nat) (h : b.length = 64) : xorN b m 64 = Gs.xorL b m := by
  rw [xorN_eq b m 64 (by omega), ← h]
  simp
theorem xorN_lt {b : List Nat} {m : Nat} (h : ∀ x ∈ b, x < 256) (hm : m < 256) (k : Nat) : ∀ x ∈ xorN b m k, x < 256 := by
  induction k with
  | zero => exact h
  | succ k ih => exact set_lt ih k _ (Nat.xor_lt_two_pow (n := 8) (getD_lt ih k) hm)
theorem und50 : ∃ d, Tryd.prog.underlying 50 = some d ∧ d.isRow = true := ⟨_, Tryd.underlying50, rfl⟩
theorem sz50 : (Tryd.prog.info? 50).map (·.size) = some 64 := by kernel_rfl
structure Xr (w wr : World) (l : List Nat) : Prop where
  st : Arr .u8 50 wr w.heap.size l
  out : Arr .u8 50 wr (w.heap.size + 1) Zb64
  bel : Below w.heap.size w wr
theorem Xr.set {w wr : World} {l : List Nat} (h : Xr w wr l) (i x : Nat) : Xr w (wr.setCell ⟨w.heap.size, i, none⟩ (.int .u8 (x : Nat))) (l.set i x) := by
  have o : Oth w.heap.size wr (wr.setCell ⟨w.heap.size, i, none⟩ (.int .u8 (x : Nat))) := (Oth.refl _ wr).setCell i _
  exact ⟨h.st.set i x, h.out.oth o (by omega), o.below h.bel (Nat.le_refl _)⟩
set_option maxRecDepth 20000 in
set_option maxHeartbeats 1000000 in
theorem xor_n (b : List Nat) (m : Nat) (hb : b.length = 64) (hl : Hid (∀ x ∈ b, x < 256)) (hm : m < 256) (w : World) :
    Calls Tryd.prog 29 #[.agg (cs .u8 b), .int .u8 (m : Int)] w fun e w' => ∃ l, e = .returned (.agg (cs .u8 l)) ∧ Hid (l = Gs.xorL b m ∧ Below w.heap.size w w') := by
  have Lb : Hid (b.length = 64) := hb
  clear hb
  go_enter Tryd.func29, Tryd.ntmps29
  go_wp2
  go_loopw [6] (fun ti wr => ∃ k : Nat, k ≤ 64 ∧ ti = .int .i64 k ∧ Hid (Xr w wr (xorN b m k))) (fun ti _ => 64 - (intOf ti).toNat)
  case atStart => exact ⟨0, by omega, rfl, (two w _ _).1, (two w _ _).2, below2 w _ _⟩
  case round =>
    obtain ⟨k, hk, rfl, HK⟩ := hrel
    by_cases hlt : k < 64
    · have i1 : (0 : Int) ≤ (k : Int) := by omega
      have i2 : (k : Int) < 64 := by omega
      obtain ⟨l, Hl⟩ : ∃ l, Hid (xorN b m k = l) := ⟨_, rfl⟩
      have Ll : Hid (l.length = 64) := by rw [← Hl.out, xorN_length]; exact Lb.out
      have B : Hid (∀ x ∈ l, x < 256) := by rw [← Hl.out]; exact xorN_lt hl.out hm k
      rw [Hl.out] at HK
      obtain ⟨x, X⟩ : ∃ x, Hid (l.getD k 0 = x) := ⟨_, rfl⟩
      have x1 : x < 256 := by rw [← X.out]; exact getD_lt B.out k
      have c1 : wr.cell? ⟨w.heap.size, k, none⟩ = some (.int .u8 (x : Nat)) := by rw [← X.out]; exact HK.out.st.cell (by rw [Ll.out]; exact hlt)
      have f0 : wr.frozen? ⟨w.heap.size, k, none⟩ = false := HK.out.st.frozen k
      obtain ⟨y, Y⟩ : ∃ y, Hid (x ^^^ m = y) := ⟨_, rfl⟩
      have b1 : bits BinOp.xor IntKind.u8 (x : Int) (m : Int) = (y : Int) := by rw [u8_xor_nat x m x1 hm, Y.out]
      go_wp2
      go_roundw
      case rel =>
        refine ⟨k + 1, by omega, by go_num, ?_⟩
        have e : xorN b m (k + 1) = l.set k y := by
          show (xorN b m k).set k ((xorN b m k).getD k 0 ^^^ m) = _
          rw [Hl.out, X.out, Y.out]
        rw [e]
        exact HK.out.set k y
      case measure => simp [intOf]; omega
    · have i2 : ¬ ((k : Int) < 64) := by omega
      have ek : k = 64 := by omega
      subst ek
      obtain ⟨l, Hl⟩ : ∃ l, Hid (xorN b m 64 = l) := ⟨_, rfl⟩
      have N : Hid (l.length = 64) := by rw [← Hl.out, xorN_length]; exact Lb.out
      have HC2 : Hid (Xr w wr l) := by rw [← Hl.out]; exact HK.out
      have R1 : Hid (Rng .u8 wr w.heap.size 0 l) := HC2.out.st.rng
      have R2 : Hid (Arr .u8 50 wr (w.heap.size + 1) Zb64) := HC2.out.out
      have RE : Hid (Arr .u8 50 (wr.setRow (w.heap.size + 1) (cs .u8 l)) (w.heap.size + 1) l) := HC2.out.out.setRow l
      have BE : Hid (Below w.heap.size w (wr.setRow (w.heap.size + 1) (cs .u8 l))) := (Oth.setRow _).below HC2.out.bel (by omega)
      have VE : Hid (l = Gs.xorL b m) := by rw [← Hl.out]; exact xorN_all m Lb.out
      clear HK HC2
      go_wp2_with (first | (refine wpList_ld (by rfl) 50 (.tmp 2) (by rfl) (by rfl) R1 und50 (by rw [N.out]; exact sz50) ?_) | (refine wpList_st1 (t := 50) (l := Zb64) (by rfl) (by rfl) 50 (.tmp 4) (.tmp 16) (by rfl) (by rfl) (by rfl) R2 (by rw [N.out]; exact sz50) (by rw [N.out]; rfl) ?_))
      refine bodyPost_ret (v := .agg (cs .u8 l)) (res_arr (by rfl) (by rfl) RE.out und50 (by rw [N.out]; exact sz50)) rfl ?_
      exact ⟨l, rfl, VE.out, BE.out⟩
end Go.Proofs.YthkoidfjmbfoiaaDoor
