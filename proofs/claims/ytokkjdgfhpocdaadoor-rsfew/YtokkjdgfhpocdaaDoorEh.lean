/- What join and Decode of package rs do. -/
import Derived.Test.YtokkjdgfhpocdaaDoorEg
namespace Go.Proofs.YtokkjdgfhpocdaaDoor
open Go.ChangeShapes Go.WideShapes Go.ChangeAt Go.RowKit
set_option linter.unusedVariables false
set_option linter.unusedSimpArgs false
set_option linter.unnecessarySimpa false
/- the first n bytes of the rows, one behind the other, with noughts where there are none -/
def flat (R : List (List Nat)) (i : Nat) : List Nat := (R.take i).flatten
def jn (R : List (List Nat)) (n i : Nat) : List Nat := ext ((flat R i).take n) n
theorem jn_length (R : List (List Nat)) (n i : Nat) : (jn R n i).length = n := ext_length _ _ (by simp; omega)
theorem flat_succ {R : List (List Nat)} {i : Nat} (hi : i < R.length) : flat R (i + 1) = flat R i ++ R.getD i [] := by
  unfold flat
  rw [List.take_succ_eq_append_getElem hi, List.flatten_append]
  simp only [List.flatten_cons, List.flatten_nil, List.append_nil, List.getD, List.getElem?_eq_getElem hi, Option.getD_some]
theorem jn_step {R : List (List Nat)} {n i o r m : Nat} (hi : i < R.length) (hm : m = (R.getD i []).length) (hr : r = n - min (flat R i).length n) (ho : r = 0 ∨ o = min (flat R i).length n) (hon : o ≤ n) :
    (jn R n i).take o ++ (R.getD i []).take r ++ (jn R n i).drop (o + min m r) = jn R n (i + 1) := by
  rcases ho with h0 | h0
  · rw [h0]
    simp
    unfold jn
    rw [flat_succ hi, List.take_append]
    have h1 : n - (flat R i).length = 0 := by omega
    rw [h1]; simp
  · have e1 : jn R n (i + 1) = ext ((flat R i).take n ++ (R.getD i []).take (n - (flat R i).length)) n := by
      unfold jn; rw [flat_succ hi, List.take_append]
    have hr2 : n - (flat R i).length = r := by omega
    rw [e1, hr2]
    have hl : ((flat R i).take n).length = o := by simp; omega
    unfold jn ext
    rw [List.take_append_of_le_length (by omega), List.take_of_length_le (by omega), List.drop_append, hl]
    have h2 : List.drop (o + min m r) ((flat R i).take n) = [] := List.drop_eq_nil_of_le (by omega)
    rw [h2]
    generalize R.getD i [] = x at *
    simp
    omega
theorem jn_lt {R : List (List Nat)} {n i : Nat} (h : ∀ j, j < R.length → ∀ x ∈ R.getD j [], x < 256) : ∀ x ∈ jn R n i, x < 256 := by
  apply ext_lt
  intro x hx
  have h1 := List.mem_of_mem_take hx
  unfold flat at h1
  obtain ⟨l, hl, hxl⟩ := List.mem_flatten.1 h1
  have h2 := List.mem_of_mem_take hl
  obtain ⟨j, hj, rfl⟩ := List.getElem_of_mem h2
  exact h j hj x (by simpa [List.getD, hj] using hxl)
set_option maxRecDepth 20000 in
set_option maxHeartbeats 1000000 in
theorem join_any (n gs k : Nat) (R : List (List Nat)) (w : World) (hk : k ≤ 16) (hn : n ≤ 1024) (HR : Hid (Rws w gs R)) (HL : Hid (R.length = k)) :
    Calls Tryd.prog 33 #[.int .i64 (n : Int), .slice (some ⟨gs, 0, none⟩) k k] w fun e w' => ∃ g, e = .returned (.slice (some ⟨g, 0, none⟩) n n) ∧ Hid (w.heap.size ≤ g ∧ Blk w' g (jn R n k) ∧ Below w.heap.size w w') := by
  have mk := make_bytes n (by omega)
  obtain ⟨g, Hg⟩ : ∃ g, Hid (w.heap.size = g) := ⟨_, rfl⟩
  go_enter Tryd.func33, Tryd.ntmps33
  go_wp2
  rw [Hg.out]
  go_loopw [14, 6] (fun ti tr wr => ∃ i o r : Nat, i ≤ k ∧ r ≤ n ∧ ti = .int .i64 (i : Int) ∧ tr = .slice (some ⟨g, o, none⟩) r r ∧ Hid (r = n - min (flat R i).length n ∧ (r = 0 ∨ o = min (flat R i).length n) ∧ o ≤ n ∧ Blk wr g (jn R n i) ∧ Below g w wr)) (fun ti _ _ => k - (intOf ti).toNat)
  case atStart =>
    refine ⟨0, 0, n, by omega, by omega, rfl, rfl, by simp [flat], by right; simp [flat], by omega, ?_, by rw [← Hg.out]; exact (Below.refl _ _).alloc (Nat.le_refl _) _⟩
    have h := Blk.made w n
    rw [Hg.out] at h
    have e : jn R n 0 = List.replicate n 0 := by simp [jn, flat, ext]
    rw [e]; exact h
  case round =>
    obtain ⟨i, o, r, hi, hrn, rfl, rfl, HI⟩ := hrel
    by_cases hlt : i < k
    · obtain ⟨hr, ho, hon, hB, hL⟩ := HI.out
      have hiR : i < R.length := by rw [HL.out]; exact hlt
      have RW : Rws wr gs R := HR.out.below (by rw [Hg.out]; exact hL)
      obtain ⟨a1, m1, c1, s1⟩ := RW.cell hiR
      have hm1 := s1.len
      have hor : o + r ≤ (jn R n i).length := by rw [jn_length]; omega
      obtain ⟨w3, hcp, B3, O3⟩ := copy_at wr g o r r m1 m1 a1 (jn R n i) (R.getD i []) hB hor s1
      rw [jn_step hiR hm1 hr ho hon] at B3
      obtain ⟨lo, Hlo⟩ : ∃ lo, Hid (min m1 r = lo) := ⟨_, rfl⟩
      rw [Hlo.out] at hcp
      have hlo : lo ≤ r := by have := Hlo.out; omega
      have i1 : (i : Int) < (k : Int) := by omega
      have m2 : m1 ≤ 140737488351232 := by have := s1.sli.2.1; omega
      have fl := flat_succ hiR
      have fll : (flat R (i + 1)).length = (flat R i).length + m1 := by rw [fl]; simp [hm1]
      have FIN : Hid (r - lo = n - min (flat R (i + 1)).length n ∧ Blk w3 g (jn R n (i + 1)) ∧ Below g w w3) := by
        have := Hlo.out
        exact ⟨by rw [fll]; omega, B3, O3.below hL (Nat.le_refl _)⟩
      have OFF : Hid ((¬ r = lo → o + lo = min (flat R (i + 1)).length n) ∧ o ≤ n ∧ o + lo ≤ n) := by
        have := Hlo.out
        refine ⟨fun h => ?_, hon, by omega⟩
        rw [fll]
        rcases ho with h0 | h0 <;> omega
      clear hr ho hon hB hL RW s1 hm1 hor B3 O3 fl fll HI
      by_cases hrl : r = lo
      · subst hrl
        go_wp2
        go_roundw
        case rel => exact ⟨i + 1, o, 0, by omega, by omega, by go_num, rfl, by have h := FIN.out.1; omega, .inl rfl, OFF.out.2.1, FIN.out.2.1, FIN.out.2.2⟩
        case measure => simp [intOf]; omega
      · go_wp2
        go_roundw
        case rel => exact ⟨i + 1, o + lo, r - lo, by omega, by omega, by go_num, by first | rfl | simp [Addr.add], FIN.out.1, .inr (OFF.out.1 hrl), OFF.out.2.2, FIN.out.2.1, FIN.out.2.2⟩
        case measure => simp [intOf]; omega
    · have e : i = k := by omega
      subst e
      have FIN : Hid (w.heap.size ≤ g ∧ Blk wr g (jn R n i) ∧ Below w.heap.size w wr) := ⟨by rw [Hg.out]; exact Nat.le_refl _, HI.out.2.2.2.1, by rw [Hg.out]; exact HI.out.2.2.2.2⟩
      clear HI
      go_wp2
      go_ret
      exact ⟨g, rfl, FIN.out⟩
theorem GoodL.mono {M M' size : Nat} {L : List (Int × List Nat)} (h : GoodL M size L) (hM : M ≤ M') : GoodL M' size L := fun i hi => ⟨⟨(h i hi).1.1, by have := (h i hi).1.2; omega⟩, (h i hi).2⟩
theorem sz_le (k n : Nat) (h : 1 ≤ k) (hk : k ≤ 16) (hn : n ≤ 1024) : sz k n ≤ 1039 := by
  have := Nat.div_le_self (n + k - 1) k
  unfold sz; omega
set_option maxHeartbeats 1000000 in
theorem decode_ok (k m n nl c : Nat) (a : Option Addr) (L : List (Int × List Nat)) (w : World) (h1 : 1 ≤ m) (h2 : m ≤ k) (h3 : k + m ≤ 16) (hn : n ≤ 1024) (hnl : nl = k) (S : Hid (Shd w a nl L)) (G : Hid (GoodL (k + m) (sz k n) L)) (FU : Hid (∀ i, i < k → (elim k L).getD i [] ≠ [])) :
    Calls Tryd.prog 22 #[.int .i64 (k : Int), .int .i64 (m : Int), .int .i64 (n : Int), .slice a nl c] w fun e w' => ∃ g, e = .returned (.tuple #[.slice (some ⟨g, 0, none⟩) n n, .nilIface]) ∧ Hid (w.heap.size ≤ g ∧ Blk w' g (jn (solved k L) n k) ∧ Below w.heap.size w w') := by
  have hs := sz_le k n (by omega) (by omega) hn
  obtain ⟨s, Hs⟩ : ∃ s, Hid (sz k n = s) := ⟨_, rfl⟩
  rw [Hs.out] at hs G
  have G16 : Hid (GoodL 16 s L) := G.out.mono h3
  subst hnl
  go_enter Tryd.func22, Tryd.ntmps22
  go_wp2_with (first | (go_at_call 12; refine (size_s nl m n s h1 h2 h3 hn Hs _).mono ?_; rintro e w0 ⟨rfl, h0⟩; rw [h0]; clear h0) | (go_at_call 32; refine (enough_any nl m s nl c a L _ (by omega) h3 (by omega) S).mono ?_; rintro e w1 ⟨r, rfl, H1⟩; have hr : r = true := H1.out.1.2 ⟨rfl, G.out⟩; subst hr; have S : Hid (Shd w1 a nl L) := S.out.below H1.out.2) | (go_at_call 34; refine (solve_any nl s nl c a L _ (by omega) (by omega) (by omega) (by omega) S G16 FU).mono ?_; rintro e w2 ⟨g2, rfl, H2⟩; have RW : Hid (Rws w2 g2 (solved nl L)) := H2.out.2.1; have RL : Hid ((solved nl L).length = nl) := H2.out.2.2.1) | (go_at_call 33; refine (join_any n g2 nl (solved nl L) _ (by omega) hn RW RL).mono ?_; rintro e w3 ⟨g3, rfl, H3⟩))
  go_ret2
  have b1 := H1.out.2
  have b2 := H2.out.2.2.2.2
  have b3 := H3.out.2.2
  have z1 := b1.size
  have z2 := b2.size
  exact ⟨g3, rfl, Nat.le_trans (Nat.le_trans z1 z2) H3.out.1, H3.out.2.1, (b1.trans (b2.mono z1)).trans (b3.mono (Nat.le_trans z1 z2))⟩
end Go.Proofs.YtokkjdgfhpocdaaDoor
