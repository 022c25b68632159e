import Derived.Test.YtkdgakcmhnadfaaGreatDoorMGu
import Derived.Test.YtkdgakcmhnadfaaGreatDoorMPa
import Derived.Laws.StructEq
/- Ha -/
/- Two stamps that are the same are equal. -/
/- errors turned -/
namespace Go.Proofs.YtkdgakcmhnadfaaGreatDoor
open Go.ChangeShapes Go.WideShapes Go.ChangeAt Go.RowKit
set_option maxRecDepth 20000
set_option linter.unusedVariables false
set_option linter.unusedSimpArgs false
theorem part3 (xs : Array Value) (i : Nat) (x : Int) (h : xs[i]? = some (.int .i64 x)) (w : World) : (part 3 xs i).run Tryz.prog w = .ok (.int .i64 x) w := by simp [part, go_sem, h]
theorem eqi (d : Nat) (x : Int) (w : World) : (Op.equalIn (d + 1) 3 (.int .i64 x) (.int .i64 x)).run Tryz.prog w = .ok true w := by
  rw [run_equalIn_int w d 3 .i64 .i64 x x Tryz.underlying3]; simp
theorem eq23 (a b c : Int) (w : World) : (Op.equalIn 9999 32 (.agg #[.int .i64 a, .int .i64 b, .int .i64 c]) (.agg #[.int .i64 a, .int .i64 b, .int .i64 c])).run Tryz.prog w = .ok true w := by
  rw [run_equalIn_struct w 9998 32 _ _ (by kernel_rfl) (by kernel_rfl)]
  simp only [Program.fieldsOf, Tryz.underlying32, Op.eqFields]
  rw [if_pos (by decide)]
  simp only [Sem.run_bind, part3 #[.int .i64 a, .int .i64 b, .int .i64 c] 0 a rfl, Result.andThen_ok, eqi, Bool.not_true, Bool.false_eq_true, if_false]
  rw [if_pos (by decide)]
  simp only [Sem.run_bind, part3 #[.int .i64 a, .int .i64 b, .int .i64 c] 1 b rfl, Result.andThen_ok, eqi, Bool.not_true, Bool.false_eq_true, if_false]
  rw [if_pos (by decide)]
  simp only [Sem.run_bind, part3 #[.int .i64 a, .int .i64 b, .int .i64 c] 2 c rfl, Result.andThen_ok, eqi, Bool.not_true, Bool.false_eq_true, if_false, Sem.run_pure]
theorem part23 (a b c d e : Int) (w : World) : (part 32 #[.int .i64 a, .int .i64 b, .int .i64 c, .int .i64 d, .int .i64 e] 0).run Tryz.prog w = .ok (.agg #[.int .i64 a, .int .i64 b, .int .i64 c]) w := by
  simp [part, go_sem]
theorem eq25 (a b c d e : Int) (w : World) : (Op.equalIn 10000 45 (.agg #[.int .i64 a, .int .i64 b, .int .i64 c, .int .i64 d, .int .i64 e]) (.agg #[.int .i64 a, .int .i64 b, .int .i64 c, .int .i64 d, .int .i64 e])).run Tryz.prog w = .ok true w := by
  rw [run_equalIn_struct w 9999 45 _ _ (by kernel_rfl) (by kernel_rfl)]
  simp only [Program.fieldsOf, Tryz.underlying45, Op.eqFields]
  rw [if_pos (by decide)]
  simp only [Sem.run_bind, part23, Result.andThen_ok, eq23, Bool.not_true, Bool.false_eq_true, if_false]
  rw [if_pos (by decide)]
  simp only [Sem.run_bind, part3 #[.int .i64 a, .int .i64 b, .int .i64 c, .int .i64 d, .int .i64 e] 3 d rfl, Result.andThen_ok, eqi, Bool.not_true, Bool.false_eq_true, if_false]
  rw [if_pos (by decide)]
  simp only [Sem.run_bind, part3 #[.int .i64 a, .int .i64 b, .int .i64 c, .int .i64 d, .int .i64 e] 4 e rfl, Result.andThen_ok, eqi, Bool.not_true, Bool.false_eq_true, if_false, Sem.run_pure]
end Go.Proofs.YtkdgakcmhnadfaaGreatDoor

/- Hb -/
/- Get and Head, the code's and the document's, in one form each. -/
/- errors turned -/
namespace Go.Proofs.YtkdgakcmhnadfaaGreatDoor
open Go.ChangeShapes Go.WideShapes Go.ChangeAt Go.RowKit
set_option maxRecDepth 20000
set_option linter.unusedVariables false
set_option linter.unusedSimpArgs false
def goodB (G : List Nat) (k : Nat) : Bool := (List.range k).all (gdB G)
theorem goodB_t {G : List Nat} {k : Nat} (h : goodB G k = true) : ∀ i, i < k → gdB G i = true := by
  unfold goodB at h
  rw [List.all_eq_true] at h
  exact fun i hi => h i (by simpa using hi)
theorem goodB_f {G : List Nat} {k : Nat} (h : goodB G k = false) : ∃ i, i < k ∧ gdB G i = false := by
  unfold goodB at h
  rw [List.all_eq_false] at h
  obtain ⟨i, h1, h2⟩ := h
  exact ⟨i, by simpa using h1, by simpa using h2⟩
theorem goodB_of {G : List Nat} {k : Nat} (h : ∀ i, i < k → gdB G i = true) : goodB G k = true := by
  unfold goodB
  rw [List.all_eq_true]
  exact fun i hi => h i (by simpa using hi)
/- five numbers of a head's seven -/
def five (ns : List Nat) : List Nat := [ns.getD 1 0, ns.getD 2 0, ns.getD 3 0, ns.getD 4 0, ns.getD 5 0]
/- what Get answers: the stamp, the shard, the error's number -/
def getS (F : List Nat) : List Nat × List Nat × Nat :=
  if (hdF F).1 ≠ 0 then (Z5, [], (hdF F).1)
  else if F.length - (hdF F).2.2 ≠ (hdF F).2.1.getD 6 0 + 32 * blks ((hdF F).2.1.getD 6 0) then (Z5, [], 5)
  else if goodB (F.drop (hdF F).2.2) (blks ((hdF F).2.1.getD 6 0)) = true then (five (hdF F).2.1, shK (F.drop (hdF F).2.2) (blks ((hdF F).2.1.getD 6 0)), 0)
  else (Z5, [], 6)
/- what Head answers: the stamp, the shard's bytes, the error's number -/
def hdS (F : List Nat) : List Nat × Nat × Nat := if (hdF F).1 ≠ 0 then (Z5, 0, (hdF F).1) else (five (hdF F).2.1, (hdF F).2.1.getD 6 0, 0)
theorem hdF_code (F : List Nat) : (hdF F).1 = 0 ∨ (hdF F).1 = 5 ∨ (hdF F).1 = 6 := by
  by_cases h1 : (rdB F 0 256).2.1 = 0
  · by_cases h2 : (opn (rdB F 0 256).1).2 = 0
    · cases h3 : hdN (opn (rdB F 0 256).1).1 with
      | none => rw [hdF_none h1 h2 h3]; simp
      | some ns => rw [hdF_some h1 h2 h3]; simp
    · rw [hdF_open h1 h2]
      exact opn_code _
  · rw [hdF_list h1]; simp
theorem hdF_seven {F : List Nat} (h : (hdF F).1 = 0) : ∃ x0 x1 x2 x3 x4 x5 x6 p, hdF F = (0, [x0, x1, x2, x3, x4, x5, x6], p) := by
  obtain ⟨k, ns, p, e⟩ : ∃ k ns p, hdF F = (k, ns, p) := ⟨_, _, _, rfl⟩
  rw [e] at h
  dsimp only at h
  rw [h] at e
  obtain ⟨_, _, h3, _⟩ := hdF_ok e
  obtain ⟨x0, x1, x2, x3, x4, x5, x6, rfl⟩ := seven (hdN_len h3)
  exact ⟨x0, x1, x2, x3, x4, x5, x6, p, e⟩
theorem getS_code (F : List Nat) : (getS F).2.2 = 0 ∨ (getS F).2.2 = 5 ∨ (getS F).2.2 = 6 := by
  unfold getS
  split
  · exact hdF_code F
  · split
    · simp
    · split <;> simp
theorem hdS_code (F : List Nat) : (hdS F).2.2 = 0 ∨ (hdS F).2.2 = 5 ∨ (hdS F).2.2 = 6 := by
  unfold hdS
  split
  · exact hdF_code F
  · simp
theorem getS_five (F : List Nat) : ∃ s1 s2 s3 s4 s5, (getS F).1 = [s1, s2, s3, s4, s5] := by
  unfold getS
  split
  · exact ⟨0, 0, 0, 0, 0, rfl⟩
  · split
    · exact ⟨0, 0, 0, 0, 0, rfl⟩
    · split
      · exact ⟨_, _, _, _, _, rfl⟩
      · exact ⟨0, 0, 0, 0, 0, rfl⟩
theorem hdS_five (F : List Nat) : ∃ s1 s2 s3 s4 s5, (hdS F).1 = [s1, s2, s3, s4, s5] := by
  unfold hdS
  split
  · exact ⟨0, 0, 0, 0, 0, rfl⟩
  · exact ⟨_, _, _, _, _, rfl⟩
theorem get_all {w : World} {a : Option Addr} {n c M : Nat} {F : List Nat} {E : Nat → Addr} (hS : Hid (Sln w a n F)) (hc : Hid (a = none → c = 0)) (hnc : n ≤ c) (hM : Hid (Mst w)) (hE : Hid (Sent w M E)) (h4 : 8 ≤ M) (hK : Hid (Kst w)) :
    Calls Tryz.prog 53 #[.slice a n c] w fun e w' => ∃ a' m c' v, e = .returned (.tuple #[.agg (cs .i64 (getS F).1), .slice a' m c', v]) ∧ Hid (v = erv E (getS F).2.2 ∧ Own w' w.heap.size a' m c' (getS F).2.1 ∧ Below w.heap.size w w') := by
  have ln := hS.out.len
  by_cases h0 : (hdF F).1 = 0
  · obtain ⟨x0, x1, x2, x3, x4, x5, x6, p, e⟩ := hdF_seven h0
    by_cases hl : n - p = x6 + 32 * blks x6
    · cases hg : goodB (F.drop p) (blks x6) with
      | true =>
        have e2 : getS F = ([x1, x2, x3, x4, x5], shK (F.drop p) (blks x6), 0) := by
          unfold getS
          rw [if_neg (by rw [e]; simp), if_neg (by rw [e, ← ln]; simp; exact hl), if_pos (by rw [e]; exact hg), e]
          rfl
        rw [e2]
        refine (get_ok hS hc hnc hM hE h4 e hK hl (by rw [hl, pcs_full]; exact goodB_t hg)).mono ?_
        rintro en w' ⟨a', m, c', h1, H⟩
        rw [hl, pcs_full] at H
        exact ⟨a', m, c', _, h1, rfl, H.out⟩
      | false =>
        have e2 : getS F = (Z5, [], 6) := by
          unfold getS
          rw [if_neg (by rw [e]; simp), if_neg (by rw [e, ← ln]; simp; exact hl), if_neg (by rw [e]; simp [hg])]
        rw [e2]
        refine (get_dig hS hc hnc hM hE h4 e hK hl (by rw [hl, pcs_full]; exact goodB_f hg)).mono ?_
        rintro en w' ⟨h1, H⟩
        exact ⟨none, 0, 0, _, h1, rfl, Own.nil _ _, H.out⟩
    · have e2 : getS F = (Z5, [], 5) := by
        unfold getS
        rw [if_neg (by rw [e]; simp), if_pos (by rw [e, ← ln]; exact hl)]
      rw [e2]
      refine (get_len hS hc hnc hM hE h4 e hl).mono ?_
      rintro en w' ⟨h1, H⟩
      exact ⟨none, 0, 0, _, h1, rfl, Own.nil _ _, H.out⟩
  · have e2 : getS F = (Z5, [], (hdF F).1) := by
      unfold getS
      rw [if_pos h0]
    rw [e2]
    refine (get_bad hS hc hnc hM hE h4 rfl h0).mono ?_
    rintro en w' ⟨h1, H⟩
    exact ⟨none, 0, 0, _, h1, (erv_pos h0).symm, Own.nil _ _, H.out⟩
theorem refget_all {w : World} {a : Option Addr} {n c : Nat} {F : List Nat} (hS : Hid (Sln w a n F)) (hc : Hid (a = none → c = 0)) (hnc : n ≤ c) :
    Calls Tryz.prog 24 #[.slice a n c] w fun e w' => ∃ a' m c', e = .returned (.tuple #[.agg (cs .i64 (getS F).1), .slice a' m c', .int .i64 ((getS F).2.2 : Int)]) ∧ Hid (Own w' w.heap.size a' m c' (getS F).2.1 ∧ Below w.heap.size w w') := by
  have ln := hS.out.len
  by_cases h0 : (hdF F).1 = 0
  · obtain ⟨x0, x1, x2, x3, x4, x5, x6, p, e⟩ := hdF_seven h0
    by_cases hl : n - p = x6 + 32 * blks x6
    · refine (refget_n hS hc hnc e hl).mono ?_
      rintro en w' ⟨hb, ⟨h1, a', m, c', h2, h3⟩ | ⟨⟨i, h1, h1'⟩, h2⟩⟩
      · have e2 : getS F = ([x1, x2, x3, x4, x5], shK (F.drop p) (blks x6), 0) := by
          unfold getS
          rw [if_neg (by rw [e]; simp), if_neg (by rw [e, ← ln]; simp; exact hl), if_pos (by rw [e]; exact goodB_of h1), e]
          rfl
        rw [e2]
        exact ⟨a', m, c', h2, h3, hb⟩
      · have e2 : getS F = (Z5, [], 6) := by
          unfold getS
          rw [if_neg (by rw [e]; simp), if_neg (by rw [e, ← ln]; simp; exact hl), if_neg (by
            rw [e]
            intro h3
            have := goodB_t h3 i h1
            rw [h1'] at this
            cases this)]
        rw [e2]
        exact ⟨none, 0, 0, h2, Own.nil _ _, hb⟩
    · have e2 : getS F = (Z5, [], 5) := by
        unfold getS
        rw [if_neg (by rw [e]; simp), if_pos (by rw [e, ← ln]; exact hl)]
      rw [e2]
      refine (refget_len hS hc hnc e hl).mono ?_
      rintro en w' ⟨h1, H⟩
      exact ⟨none, 0, 0, h1, Own.nil _ _, H.out⟩
  · have e2 : getS F = (Z5, [], (hdF F).1) := by
      unfold getS
      rw [if_pos h0]
    rw [e2]
    refine (refget_bad hS hc hnc rfl h0).mono ?_
    rintro en w' ⟨h1, H⟩
    exact ⟨none, 0, 0, h1, Own.nil _ _, H.out⟩
theorem refhead_all {w : World} {a : Option Addr} {n c : Nat} {F : List Nat} (hS : Hid (Sln w a n F)) (hc : Hid (a = none → c = 0)) (hnc : n ≤ c) :
    Calls Tryz.prog 68 #[.slice a n c] w fun e w' => ∃ q : Nat, e = .returned (.tuple #[.agg (cs .i64 (hdS F).1), .int .i64 ((hdS F).2.1 : Int), .int .i64 (q : Int), .int .i64 ((hdS F).2.2 : Int)]) ∧ Hid (((hdF F).1 = 0 → q = (hdF F).2.2) ∧ Below w.heap.size w w') := by
  by_cases h0 : (hdF F).1 = 0
  · obtain ⟨x0, x1, x2, x3, x4, x5, x6, p, e⟩ := hdF_seven h0
    have e2 : hdS F = ([x1, x2, x3, x4, x5], x6, 0) := by
      unfold hdS
      rw [if_neg (by rw [e]; simp), e]
      rfl
    rw [e2]
    refine (refhead_ok hS hc hnc e).mono ?_
    rintro en w' ⟨h1, H⟩
    exact ⟨p, h1, fun _ => by rw [e], H.out⟩
  · have e2 : hdS F = (Z5, 0, (hdF F).1) := by
      unfold hdS
      rw [if_pos h0]
    rw [e2]
    refine (refhead_k hS hc hnc rfl h0).mono ?_
    rintro en w' ⟨h1, H⟩
    exact ⟨0, h1, fun h => absurd h h0, H.out⟩
/- what is taken is written as it was -/
theorem getS_back {F : List Nat} {s1 s2 s3 s4 s5 : Nat} (hb : ∀ x ∈ F, x < 256) (h : (getS F).2.2 = 0) (hs : (getS F).1 = [s1, s2, s3, s4, s5]) : okN [1, (s1 : Int), s2, s3, s4, s5, 0] = true ∧ (getS F).2.1.length ≤ 1024 ∧ frameL [1, s1, s2, s3, s4, s5, (getS F).2.1.length] (getS F).2.1 = F := by
  by_cases h0 : (hdF F).1 = 0
  · obtain ⟨x0, x1, x2, x3, x4, x5, x6, p, e⟩ := hdF_seven h0
    by_cases hl : F.length - p = x6 + 32 * blks x6
    · cases hg : goodB (F.drop p) (blks x6) with
      | true =>
        have e2 : getS F = ([x1, x2, x3, x4, x5], shK (F.drop p) (blks x6), 0) := by
          unfold getS
          rw [if_neg (by rw [e]; simp), if_neg (by rw [e]; simp; exact hl), if_pos (by rw [e]; exact hg), e]
          rfl
        rw [e2] at hs ⊢
        simp only [List.cons.injEq, and_true] at hs
        obtain ⟨rfl, rfl, rfl, rfl, rfl⟩ := hs
        dsimp only
        have gl : (F.drop p).length = x6 + 32 * blks x6 := by simp; exact hl
        have b2 := bodyL_back gl (goodB_t hg)
        have x6b := hdF_six e
        have hh := hdF_back hb e
        obtain ⟨_, _, h3, _⟩ := hdF_ok e
        have x01 : x0 = 1 := by
          unfold hdN at h3
          cases hk : rdS (opn (rdB F 0 256).1).1 mostL 7 with
          | none => rw [hk] at h3; cases h3
          | some r =>
            obtain ⟨ns', p'⟩ := r
            rw [hk] at h3
            dsimp only at h3
            split at h3
            · rename_i h5
              simp only [Option.some.injEq] at h3
              rw [h3] at h5
              exact h5.1
            · cases h3
        have bd := hdN_bound h3
        refine ⟨?_, by omega, ?_⟩
        · rw [okN_iff]
          have b1 := bd 1 (by omega)
          have b2 := bd 2 (by omega)
          have b3 := bd 3 (by omega)
          have b4 := bd 4 (by omega)
          have b5 := bd 5 (by omega)
          simp [mostL] at b1 b2 b3 b4 b5
          omega
        · rw [b2.2]
          unfold frameL
          rw [b2.1, ← x01, hh, List.take_append_drop]
      | false =>
        have e2 : getS F = (Z5, [], 6) := by
          unfold getS
          rw [if_neg (by rw [e]; simp), if_neg (by rw [e]; simp; exact hl), if_neg (by rw [e]; simp [hg])]
        rw [e2] at h
        cases h
    · have e2 : getS F = (Z5, [], 5) := by
        unfold getS
        rw [if_neg (by rw [e]; simp), if_pos (by rw [e]; exact hl)]
      rw [e2] at h
      cases h
  · have e2 : getS F = (Z5, [], (hdF F).1) := by
      unfold getS
      rw [if_pos h0]
    rw [e2] at h
    exact absurd h h0
end Go.Proofs.YtkdgakcmhnadfaaGreatDoor
