import Derived.Test.YtmkknklkdgkbaaaDoorMHa
/- Hb -/
/- Get and Head, the code's and the document's, in one form each. -/
namespace Go.Proofs.YtmkknklkdgkbaaaDoor
open Go.ChangeShapes Go.WideShapes Go.ChangeAt Go.RowKit
set_option maxRecDepth 20000
set_option linter.unusedVariables false
set_option linter.unusedSimpArgs false
def goodB (G : List Nat) (k : Nat) : Bool := (List.range k).all (gdB G)
theorem goodB_t {G : List Nat} {k : Nat} (h : goodB G k = true) : ∀ i, i < k → gdB G i = true := by
  unfold goodB at h
  rw [List.all_eq_true] at h
  exact fun i hi => h i (by simpa using hi)
theorem goodB_f {G : List Nat} {k : Nat} (h : goodB G k = false) : ∃ i, i < k ∧ gdB G i = false := by
  unfold goodB at h
  rw [List.all_eq_false] at h
  obtain ⟨i, h1, h2⟩ := h
  exact ⟨i, by simpa using h1, by simpa using h2⟩
theorem goodB_of {G : List Nat} {k : Nat} (h : ∀ i, i < k → gdB G i = true) : goodB G k = true := by
  unfold goodB
  rw [List.all_eq_true]
  exact fun i hi => h i (by simpa using hi)
/- five numbers of a head's seven -/
def five (ns : List Nat) : List Nat := [ns.getD 1 0, ns.getD 2 0, ns.getD 3 0, ns.getD 4 0, ns.getD 5 0]
/- what Get answers: the stamp, the shard, the error's number -/
def getS (F : List Nat) : List Nat × List Nat × Nat :=
  if (hdF F).1 ≠ 0 then (Z5, [], (hdF F).1)
  else if F.length - (hdF F).2.2 ≠ (hdF F).2.1.getD 6 0 + 32 * blks ((hdF F).2.1.getD 6 0) then (Z5, [], 5)
  else if goodB (F.drop (hdF F).2.2) (blks ((hdF F).2.1.getD 6 0)) = true then (five (hdF F).2.1, shK (F.drop (hdF F).2.2) (blks ((hdF F).2.1.getD 6 0)), 0)
  else (Z5, [], 6)
/- what Head answers: the stamp, the shard's bytes, the error's number -/
def hdS (F : List Nat) : List Nat × Nat × Nat := if (hdF F).1 ≠ 0 then (Z5, 0, (hdF F).1) else (five (hdF F).2.1, (hdF F).2.1.getD 6 0, 0)
theorem hdF_code (F : List Nat) : (hdF F).1 = 0 ∨ (hdF F).1 = 5 ∨ (hdF F).1 = 6 := by
  by_cases h1 : (rdB F 0 256).2.1 = 0
  · by_cases h2 : (opn (rdB F 0 256).1).2 = 0
    · cases h3 : hdN (opn (rdB F 0 256).1).1 with
      | none => rw [hdF_none h1 h2 h3]; simp
      | some ns => rw [hdF_some h1 h2 h3]; simp
    · rw [hdF_open h1 h2]
      exact opn_code _
  · rw [hdF_list h1]; simp
theorem hdF_seven {F : List Nat} (h : (hdF F).1 = 0) : ∃ x0 x1 x2 x3 x4 x5 x6 p, hdF F = (0, [x0, x1, x2, x3, x4, x5, x6], p) := by
  obtain ⟨k, ns, p, e⟩ : ∃ k ns p, hdF F = (k, ns, p) := ⟨_, _, _, rfl⟩
  rw [e] at h
  dsimp only at h
  rw [h] at e
  obtain ⟨_, _, h3, _⟩ := hdF_ok e
  obtain ⟨x0, x1, x2, x3, x4, x5, x6, rfl⟩ := seven (hdN_len h3)
  exact ⟨x0, x1, x2, x3, x4, x5, x6, p, e⟩
theorem getS_code (F : List Nat) : (getS F).2.2 = 0 ∨ (getS F).2.2 = 5 ∨ (getS F).2.2 = 6 := by
  unfold getS
  split
  · exact hdF_code F
  · split
    · simp
    · split <;> simp
theorem hdS_code (F : List Nat) : (hdS F).2.2 = 0 ∨ (hdS F).2.2 = 5 ∨ (hdS F).2.2 = 6 := by
  unfold hdS
  split
  · exact hdF_code F
  · simp
theorem getS_five (F : List Nat) : ∃ s1 s2 s3 s4 s5, (getS F).1 = [s1, s2, s3, s4, s5] := by
  unfold getS
  split
  · exact ⟨0, 0, 0, 0, 0, rfl⟩
  · split
    · exact ⟨0, 0, 0, 0, 0, rfl⟩
    · split
      · exact ⟨_, _, _, _, _, rfl⟩
      · exact ⟨0, 0, 0, 0, 0, rfl⟩
theorem hdS_five (F : List Nat) : ∃ s1 s2 s3 s4 s5, (hdS F).1 = [s1, s2, s3, s4, s5] := by
  unfold hdS
  split
  · exact ⟨0, 0, 0, 0, 0, rfl⟩
  · exact ⟨_, _, _, _, _, rfl⟩
theorem get_all {w : World} {a : Option Addr} {n c M : Nat} {F : List Nat} {E : Nat → Addr} (hS : Hid (Sln w a n F)) (hc : Hid (a = none → c = 0)) (hnc : n ≤ c) (hM : Hid (Mst w)) (hE : Hid (Sent w M E)) (h4 : 4 ≤ M) (hK : Hid (Kst w)) :
    Calls Tryd.prog 15 #[.slice a n c] w fun e w' => ∃ a' m c' v, e = .returned (.tuple #[.agg (cs .i64 (getS F).1), .slice a' m c', v]) ∧ Hid (v = erv E (getS F).2.2 ∧ Own w' w.heap.size a' m c' (getS F).2.1 ∧ Below w.heap.size w w') := by
  have ln := hS.out.len
  by_cases h0 : (hdF F).1 = 0
  · obtain ⟨x0, x1, x2, x3, x4, x5, x6, p, e⟩ := hdF_seven h0
    by_cases hl : n - p = x6 + 32 * blks x6
    · cases hg : goodB (F.drop p) (blks x6) with
      | true =>
        have e2 : getS F = ([x1, x2, x3, x4, x5], shK (F.drop p) (blks x6), 0) := by
          unfold getS
          rw [if_neg (by rw [e]; simp), if_neg (by rw [e, ← ln]; simp; exact hl), if_pos (by rw [e]; exact hg), e]
          rfl
        rw [e2]
        refine (get_ok hS hc hnc hM hE h4 e hK hl (by rw [hl, pcs_full]; exact goodB_t hg)).mono ?_
        rintro en w' ⟨a', m, c', h1, H⟩
        rw [hl, pcs_full] at H
        exact ⟨a', m, c', _, h1, rfl, H.out⟩
      | false =>
        have e2 : getS F = (Z5, [], 6) := by
          unfold getS
          rw [if_neg (by rw [e]; simp), if_neg (by rw [e, ← ln]; simp; exact hl), if_neg (by rw [e]; simp [hg])]
        rw [e2]
        refine (get_dig hS hc hnc hM hE h4 e hK hl (by rw [hl, pcs_full]; exact goodB_f hg)).mono ?_
        rintro en w' ⟨h1, H⟩
        exact ⟨none, 0, 0, _, h1, rfl, Own.nil _ _, H.out⟩
    · have e2 : getS F = (Z5, [], 5) := by
        unfold getS
        rw [if_neg (by rw [e]; simp), if_pos (by rw [e, ← ln]; exact hl)]
      rw [e2]
      refine (get_len hS hc hnc hM hE h4 e hl).mono ?_
      rintro en w' ⟨h1, H⟩
      exact ⟨none, 0, 0, _, h1, rfl, Own.nil _ _, H.out⟩
  · have e2 : getS F = (Z5, [], (hdF F).1) := by
      unfold getS
      rw [if_pos h0]
    rw [e2]
    refine (get_bad hS hc hnc hM hE h4 rfl h0).mono ?_
    rintro en w' ⟨h1, H⟩
    exact ⟨none, 0, 0, _, h1, (erv_pos h0).symm, Own.nil _ _, H.out⟩
theorem refget_all {w : World} {a : Option Addr} {n c : Nat} {F : List Nat} (hS : Hid (Sln w a n F)) (hc : Hid (a = none → c = 0)) (hnc : n ≤ c) :
    Calls Tryd.prog 18 #[.slice a n c] w fun e w' => ∃ a' m c', e = .returned (.tuple #[.agg (cs .i64 (getS F).1), .slice a' m c', .int .i64 ((getS F).2.2 : Int)]) ∧ Hid (Own w' w.heap.size a' m c' (getS F).2.1 ∧ Below w.heap.size w w') := by
  have ln := hS.out.len
  by_cases h0 : (hdF F).1 = 0
  · obtain ⟨x0, x1, x2, x3, x4, x5, x6, p, e⟩ := hdF_seven h0
    by_cases hl : n - p = x6 + 32 * blks x6
    · refine (refget_n hS hc hnc e hl).mono ?_
      rintro en w' ⟨hb, ⟨h1, a', m, c', h2, h3⟩ | ⟨⟨i, h1, h1'⟩, h2⟩⟩
      · have e2 : getS F = ([x1, x2, x3, x4, x5], shK (F.drop p) (blks x6), 0) := by
          unfold getS
          rw [if_neg (by rw [e]; simp), if_neg (by rw [e, ← ln]; simp; exact hl), if_pos (by rw [e]; exact goodB_of h1), e]
          rfl
        rw [e2]
        exact ⟨a', m, c', h2, h3, hb⟩
      · have e2 : getS F = (Z5, [], 6) := by
          unfold getS
          rw [if_neg (by rw [e]; simp), if_neg (by rw [e, ← ln]; simp; exact hl), if_neg (by
            rw [e]
            intro h3
            have := goodB_t h3 i h1
            rw [h1'] at this
            cases this)]
        rw [e2]
        exact ⟨none, 0, 0, h2, Own.nil _ _, hb⟩
    · have e2 : getS F = (Z5, [], 5) := by
        unfold getS
        rw [if_neg (by rw [e]; simp), if_pos (by rw [e, ← ln]; exact hl)]
      rw [e2]
      refine (refget_len hS hc hnc e hl).mono ?_
      rintro en w' ⟨h1, H⟩
      exact ⟨none, 0, 0, h1, Own.nil _ _, H.out⟩
  · have e2 : getS F = (Z5, [], (hdF F).1) := by
      unfold getS
      rw [if_pos h0]
    rw [e2]
    refine (refget_bad hS hc hnc rfl h0).mono ?_
    rintro en w' ⟨h1, H⟩
    exact ⟨none, 0, 0, h1, Own.nil _ _, H.out⟩
theorem head_all {w : World} {a : Option Addr} {n c M : Nat} {F : List Nat} {E : Nat → Addr} (hS : Hid (Sln w a n F)) (hc : Hid (a = none → c = 0)) (hnc : n ≤ c) (hM : Hid (Mst w)) (hE : Hid (Sent w M E)) (h4 : 4 ≤ M) :
    Calls Tryd.prog 16 #[.slice a n c] w fun e w' => ∃ v, e = .returned (.tuple #[.agg (cs .i64 (hdS F).1), .int .i64 ((hdS F).2.1 : Int), v]) ∧ Hid (v = erv E (hdS F).2.2 ∧ Below w.heap.size w w') := by
  by_cases h0 : (hdF F).1 = 0
  · obtain ⟨x0, x1, x2, x3, x4, x5, x6, p, e⟩ := hdF_seven h0
    have e2 : hdS F = ([x1, x2, x3, x4, x5], x6, 0) := by
      unfold hdS
      rw [if_neg (by rw [e]; simp), e]
      rfl
    rw [e2]
    refine (head_ok hS hc hnc hM hE h4 e).mono ?_
    rintro en w' ⟨h1, H⟩
    exact ⟨_, h1, rfl, H.out⟩
  · have e2 : hdS F = (Z5, 0, (hdF F).1) := by
      unfold hdS
      rw [if_pos h0]
    rw [e2]
    refine (head_bad hS hc hnc hM hE h4 rfl h0).mono ?_
    rintro en w' ⟨h1, H⟩
    exact ⟨_, h1, (erv_pos h0).symm, H.out⟩
theorem refhead_all {w : World} {a : Option Addr} {n c : Nat} {F : List Nat} (hS : Hid (Sln w a n F)) (hc : Hid (a = none → c = 0)) (hnc : n ≤ c) :
    Calls Tryd.prog 19 #[.slice a n c] w fun e w' => ∃ q : Nat, e = .returned (.tuple #[.agg (cs .i64 (hdS F).1), .int .i64 ((hdS F).2.1 : Int), .int .i64 (q : Int), .int .i64 ((hdS F).2.2 : Int)]) ∧ Hid (((hdF F).1 = 0 → q = (hdF F).2.2) ∧ Below w.heap.size w w') := by
  by_cases h0 : (hdF F).1 = 0
  · obtain ⟨x0, x1, x2, x3, x4, x5, x6, p, e⟩ := hdF_seven h0
    have e2 : hdS F = ([x1, x2, x3, x4, x5], x6, 0) := by
      unfold hdS
      rw [if_neg (by rw [e]; simp), e]
      rfl
    rw [e2]
    refine (refhead_ok hS hc hnc e).mono ?_
    rintro en w' ⟨h1, H⟩
    exact ⟨p, h1, fun _ => by rw [e], H.out⟩
  · have e2 : hdS F = (Z5, 0, (hdF F).1) := by
      unfold hdS
      rw [if_pos h0]
    rw [e2]
    refine (refhead_k hS hc hnc rfl h0).mono ?_
    rintro en w' ⟨h1, H⟩
    exact ⟨0, h1, fun h => absurd h h0, H.out⟩
/- what is taken is written as it was -/
theorem getS_back {F : List Nat} {s1 s2 s3 s4 s5 : Nat} (hb : ∀ x ∈ F, x < 256) (h : (getS F).2.2 = 0) (hs : (getS F).1 = [s1, s2, s3, s4, s5]) : okN [1, (s1 : Int), s2, s3, s4, s5, 0] = true ∧ (getS F).2.1.length ≤ 1024 ∧ frameL [1, s1, s2, s3, s4, s5, (getS F).2.1.length] (getS F).2.1 = F := by
  by_cases h0 : (hdF F).1 = 0
  · obtain ⟨x0, x1, x2, x3, x4, x5, x6, p, e⟩ := hdF_seven h0
    by_cases hl : F.length - p = x6 + 32 * blks x6
    · cases hg : goodB (F.drop p) (blks x6) with
      | true =>
        have e2 : getS F = ([x1, x2, x3, x4, x5], shK (F.drop p) (blks x6), 0) := by
          unfold getS
          rw [if_neg (by rw [e]; simp), if_neg (by rw [e]; simp; exact hl), if_pos (by rw [e]; exact hg), e]
          rfl
        rw [e2] at hs ⊢
        simp only [List.cons.injEq, and_true] at hs
        obtain ⟨rfl, rfl, rfl, rfl, rfl⟩ := hs
        dsimp only
        have gl : (F.drop p).length = x6 + 32 * blks x6 := by simp; exact hl
        have b2 := bodyL_back gl (goodB_t hg)
        have x6b := hdF_six e
        have hh := hdF_back hb e
        obtain ⟨_, _, h3, _⟩ := hdF_ok e
        have x01 : x0 = 1 := by
          unfold hdN at h3
          cases hk : rdS (opn (rdB F 0 256).1).1 mostL 7 with
          | none => rw [hk] at h3; cases h3
          | some r =>
            obtain ⟨ns', p'⟩ := r
            rw [hk] at h3
            dsimp only at h3
            split at h3
            · rename_i h5
              simp only [Option.some.injEq] at h3
              rw [h3] at h5
              exact h5.1
            · cases h3
        have bd := hdN_bound h3
        refine ⟨?_, by omega, ?_⟩
        · rw [okN_iff]
          have b1 := bd 1 (by omega)
          have b2 := bd 2 (by omega)
          have b3 := bd 3 (by omega)
          have b4 := bd 4 (by omega)
          have b5 := bd 5 (by omega)
          simp [mostL] at b1 b2 b3 b4 b5
          omega
        · rw [b2.2]
          unfold frameL
          rw [b2.1, ← x01, hh, List.take_append_drop]
      | false =>
        have e2 : getS F = (Z5, [], 6) := by
          unfold getS
          rw [if_neg (by rw [e]; simp), if_neg (by rw [e]; simp; exact hl), if_neg (by rw [e]; simp [hg])]
        rw [e2] at h
        cases h
    · have e2 : getS F = (Z5, [], 5) := by
        unfold getS
        rw [if_neg (by rw [e]; simp), if_pos (by rw [e]; exact hl)]
      rw [e2] at h
      cases h
  · have e2 : getS F = (Z5, [], (hdF F).1) := by
      unfold getS
      rw [if_pos h0]
    rw [e2] at h
    exact absurd h h0
end Go.Proofs.YtmkknklkdgkbaaaDoor

/- Hd -/
/- What a row of this seat lists, taken apart: the constants, the errors, the greatest numbers. -/
namespace Go.Proofs.YtmkknklkdgkbaaaDoor
open Go.ChangeShapes Go.WideShapes Go.ChangeAt Go.RowKit
set_option maxRecDepth 20000
set_option linter.unusedVariables false
set_option linter.unusedSimpArgs false
theorem laidVars_app {P : Program} {W : World} {B : List (String × DataW Unit)} : ∀ (A : List (String × DataW Unit)) (ps : List MemPlace), DataW.LaidVars P W (A ++ B) ps → ∃ p1 p2, DataW.LaidVars P W A p1 ∧ DataW.LaidVars P W B p2 ∧ ps = p1 ++ p2
  | [], ps, h => ⟨[], ps, rfl, h, rfl⟩
  | x :: A, ps, h => by
    obtain ⟨g, t, cs, fuel, p, q, h1, h2, h3, h4, h5, h6⟩ := h
    obtain ⟨p1, p2, k1, k2, rfl⟩ := laidVars_app A q h5
    exact ⟨_, p2, ⟨g, t, cs, fuel, p, p1, h1, h2, h3, h4, k1, rfl⟩, k2, by rw [h6]; simp only [List.append_assoc]⟩
theorem laidMet_app {P : Program} {W : World} {A B : List (String × DataW Unit)} (h : laidMet P (A ++ B) W) : laidMet P A W ∧ laidMet P B W := by
  obtain ⟨ps, h1, h2, h3⟩ := h
  obtain ⟨p1, p2, k1, k2, rfl⟩ := laidVars_app A ps h1
  have n := List.nodup_append.1 h2
  exact ⟨⟨p1, k1, n.1, fun b off hm => h3 b off (List.mem_append_left _ hm)⟩, ⟨p2, k2, n.2.1, fun b off hm => h3 b off (List.mem_append_right _ hm)⟩⟩
theorem datumM : (Rows.laid_bollard_frame_most : DataW Unit) = Lib.tabData .i64 mostL := by rfl
theorem mst_of {W : World} (h : laidMet Tryd.prog [("bollard/frame.most", Rows.laid_bollard_frame_most)] W) : Mst W := by
  rw [datumM] at h
  have T := Lib.tabIs_of_head (g := 18) (t := 64) (e := 3) (n := 7) (by kernel_rfl) (by kernel_rfl) Tryd.underlying64 Tryd.underlying3 (by kernel_rfl) (by kernel_rfl) h
  intro i hi
  exact T.cell (g := 18) (by kernel_rfl) i hi
theorem laid_all {W : World} {laid : List (String × DataW Unit)} (l : List (String × Nat × List UInt8)) (hl : laid = [("bollard/sha.constants", Rows.laid_bollard_sha_constants)] ++ named l ++ [("bollard/frame.most", Rows.laid_bollard_frame_most)]) (hp : laid.all (fun x => x.2.handleName?.isNone) = true) (h : laidMetH Tryd.prog laid W) : Kst W ∧ Mst W ∧ laidMet Tryd.prog (named l) W := by
  rw [MakeChecks.laidMetH_plain _ _ _ hp, hl] at h
  have h1 := laidMet_app h
  have h2 := laidMet_app h1.1
  exact ⟨kst_of h2.1, mst_of h1.2, h2.2⟩
theorem sent_of2 {W : World} {M : Nat} (l : List (String × Nat × List UInt8)) (hg : ∀ v ∈ l, Tryd.prog.globalNamed v.1 = some v.2.1 ∧ (Tryd.prog.globals[v.2.1]?).map (·.type) = some 30)
    (hnd : (l.map (·.2.1)).Nodup) (hM : ∀ g, g < M → ∃ v ∈ l, v.2.1 = g) (h : laidMet Tryd.prog (named l) W) : ∃ E, Sent W M E := by
  obtain ⟨ps, h1, h2, h3⟩ := h
  obtain ⟨E, hE⟩ := sent_ind l ps hg hnd h1 h2 (fun b off hm => (h3 b off hm).2)
  refine ⟨E, fun g hg => ?_, fun g hg => ?_, fun g g' hg hg' hne => ?_⟩
  · obtain ⟨v, hv, rfl⟩ := hM g hg
    exact (hE v hv).1
  · obtain ⟨v, hv, rfl⟩ := hM g hg
    obtain ⟨cs, t, h4⟩ := (h3 _ _ (hE v hv).2.1).1
    exact ⟨cs, t, h4⟩
  · obtain ⟨v, hv, rfl⟩ := hM g hg
    obtain ⟨v', hv', rfl⟩ := hM g' hg'
    exact (hE v hv).2.2 v' hv' hne
end Go.Proofs.YtmkknklkdgkbaaaDoor

/- Hc -/
/- FrameGets, walked. -/
namespace Go.Proofs.YtmkknklkdgkbaaaDoor
open Go.ChangeShapes Go.WideShapes Go.ChangeAt Go.RowKit
set_option maxRecDepth 20000
set_option linter.unusedVariables false
set_option linter.unusedSimpArgs false
theorem getS_nil {F : List Nat} (h : (getS F).2.2 ≠ 0) : (getS F).2.1 = [] := by
  unfold getS at h ⊢
  by_cases h1 : (hdF F).1 ≠ 0
  · rw [if_pos h1]
  · rw [if_neg h1] at h ⊢
    by_cases h2 : F.length - (hdF F).2.2 ≠ (hdF F).2.1.getD 6 0 + 32 * blks ((hdF F).2.1.getD 6 0)
    · rw [if_pos h2]
    · rw [if_neg h2] at h ⊢
      by_cases h3 : goodB (F.drop (hdF F).2.2) (blks ((hdF F).2.1.getD 6 0)) = true
      · rw [if_pos h3] at h; exact absurd rfl h
      · rw [if_neg h3]
/- what stands behind the four calls -/
structure Fg (w W : World) (E : Nat → Addr) (g4 g7 g10 g13 gi : Nat) (l : List Nat) (a : Option Addr) (n : Nat) (ac : Option Addr) (mc cc : Nat) (aw : Option Addr) (mw cw : Nat) (L S T : List Nat) : Prop where
  d4 : Arr .i64 25 W g4 S
  d7 : Arr .i64 25 W g7 T
  d10 : Arr .i64 25 W g10 S
  d13 : Arr .i64 25 W g13 T
  bi : Blk W gi (l ++ marks)
  sl : Sln W a n l
  oc : Own W w.heap.size ac mc cc L
  ow : Own W w.heap.size aw mw cw L
  se : Sent W 18 E
  ms : Mst W
  ks : Kst W
  bel : Below w.heap.size w W
theorem Fg.below {w W W' : World} {E : Nat → Addr} {g4 g7 g10 g13 gi : Nat} {l : List Nat} {a : Option Addr} {n : Nat} {ac : Option Addr} {mc cc : Nat} {aw : Option Addr} {mw cw : Nat} {L S T : List Nat} (h : Fg w W E g4 g7 g10 g13 gi l a n ac mc cc aw mw cw L S T) (hb : Below W.heap.size W W') : Fg w W' E g4 g7 g10 g13 gi l a n ac mc cc aw mw cw L S T :=
  ⟨h.d4.below hb h.d4.lt, h.d7.below hb h.d7.lt, h.d10.below hb h.d10.lt, h.d13.below hb h.d13.lt, h.bi.below hb h.bi.lt, h.sl.below hb, h.oc.below hb, h.ow.below hb, h.se.below hb, h.ms.below hb h.ms.lt, h.ks.below hb (kst_pos h.ks), h.bel.trans (hb.mono h.bel.size)⟩
set_option maxHeartbeats 8000000 in
theorem gets_n {w : World} {E : Nat → Addr} {a : Option Addr} {n c : Nat} {l : List Nat} (hS : Hid (Sln w a n l)) (hc : Hid (a = none → c = 0)) (hnc : n ≤ c) (hn : n + 6 ≤ 140737488352256) (hE : Hid (Sent w 18 E)) (hM : Hid (Mst w)) (hK : Hid (Kst w)) :
    Calls Tryd.prog 4 #[.slice a n c] w fun e w' => e = .returned (.bool true) ∧ Hid (Below w.heap.size w w') := by
  obtain ⟨s1, s2, s3, s4, s5, hs⟩ := getS_five l
  obtain ⟨t1, t2, t3, t4, t5, ht⟩ := hdS_five l
  obtain ⟨L, HL⟩ : ∃ L, Hid ((getS l).2.1 = L) := ⟨_, rfl⟩
  obtain ⟨e1, He1⟩ : ∃ e1, Hid ((getS l).2.2 = e1) := ⟨_, rfl⟩
  obtain ⟨n2, Hn2⟩ : ∃ n2, Hid ((hdS l).2.1 = n2) := ⟨_, rfl⟩
  obtain ⟨e2, He2⟩ : ∃ e2, Hid ((hdS l).2.2 = e2) := ⟨_, rfl⟩
  have C1 : Hid (e1 = 0 ∨ e1 = 5 ∨ e1 = 6) := by rw [← He1.out]; exact getS_code l
  have C2 : Hid (e2 = 0 ∨ e2 = 5 ∨ e2 = 6) := by rw [← He2.out]; exact hdS_code l
  have HS : Hid ((getS l).1 = [s1, s2, s3, s4, s5]) := hs
  have HT : Hid ((hdS l).1 = [t1, t2, t3, t4, t5]) := ht
  have BK : Hid (e1 = 0 → okN [1, (s1 : Int), s2, s3, s4, s5, 0] = true ∧ L.length ≤ 1024 ∧ frameL [1, s1, s2, s3, s4, s5, L.length] L = l) := by
    intro h
    have h1 := getS_back hS.out.lt (by rw [He1.out]; exact h) HS.out
    rw [HL.out] at h1
    exact h1
  clear hs ht
  go_enter Tryd.func4, Tryd.ntmps4
  go_upto_region 8 with (first
    | (go_at_call 9; refine (alive_n hM hK).mono ?_; rintro en w1 ⟨rfl, H1⟩
       have S1' : Hid (Sln w1 a n l) := hS.out.below H1.out)
    | (go_at_call 10; refine (bytes_n S1' hc).mono ?_; rintro en w2 ⟨gi, N, rfl, H2⟩
       have B2 : Hid (Below w.heap.size w w2) := H1.out.trans (H2.out.2.2.2.mono H1.out.size)
       have I2 : Hid (Sln w2 (some ⟨gi, 0, none⟩) n l) := blk_begin H2.out.2.2.1 hS.out.len hS.out.lt hS.out.sli.2.1
       have Z2 : Hid ((some (⟨gi, 0, none⟩ : Addr)) = none → N = 0) := fun h => by cases h
       have N2 : n ≤ N := by have := H2.out.1; omega
       have M2 : Hid (Mst w2) := hM.out.below B2.out hM.out.lt
       have E2 : Hid (Sent w2 18 E) := hE.out.below B2.out
       have K2 : Hid (Kst w2) := hK.out.below B2.out (kst_pos hK.out))
    | (go_at_call 15; refine (get_all I2 Z2 N2 M2 E2 (by omega) K2).mono ?_; rintro en w3 ⟨ac, mc, cc, v1, rfl, H3⟩
       rw [HS.out]
       have B3 : Hid (Below w2.heap.size w2 w3) := H3.out.2.2
       have O3 : Hid (Own w3 w2.heap.size ac mc cc L) := by rw [← HL.out]; exact H3.out.2.1
       have V1 : Hid (v1 = erv E e1) := by rw [← He1.out]; exact H3.out.1
       have A1 : Hid (Arr .i64 25 (w3.alloc (.cells (cs .i64 Z5) 25)) w3.heap.size Z5) := Arr.new _ _ _ _
       obtain ⟨V1w, HV1⟩ : ∃ V, Hid ((w3.alloc (.cells (cs .i64 Z5) 25)).setRow w3.heap.size (cs .i64 [s1, s2, s3, s4, s5]) = V) := ⟨_, rfl⟩
       have b1 : Hid (Below w3.heap.size w3 V1w) := by rw [← HV1.out]; exact below_arr w3 _ _ _ _
       have D1 : Hid (Arr .i64 25 V1w w3.heap.size [s1, s2, s3, s4, s5]) := by rw [← HV1.out]; exact A1.out.setRow _
       have I3 : Hid (Sln V1w (some ⟨gi, 0, none⟩) n l) := (I2.out.below B3.out).below b1.out
       have M3 : Hid (Mst V1w) := (M2.out.below B3.out M2.out.lt).below b1.out (Nat.lt_of_lt_of_le M2.out.lt B3.out.size)
       have E3 : Hid (Sent V1w 18 E) := (E2.out.below B3.out).below b1.out
       clear H3)
    | (refine wpList_st0 (k := .i64) (t := 25) (l := Z5) (l2 := [s1, s2, s3, s4, s5]) (by rfl) (by rfl) 25 (.tmp 4) (.tmp 25) (by rfl) (by rfl) (by rfl) A1 sz25s (by rfl) ?_; refine (show _ = V1w from HV1.out) ▸ ?_)
    | (go_at_call 16; refine (head_all I3 Z2 N2 M3 E3 (by omega)).mono ?_; rintro en w4 ⟨v2, rfl, H4⟩
       rw [HT.out, Hn2.out]
       have B4 : Hid (Below V1w.heap.size V1w w4) := H4.out.2
       have V2 : Hid (v2 = erv E e2) := by rw [← He2.out]; exact H4.out.1
       have A2 : Hid (Arr .i64 25 (w4.alloc (.cells (cs .i64 Z5) 25)) w4.heap.size Z5) := Arr.new _ _ _ _
       obtain ⟨V2w, HV2⟩ : ∃ V, Hid ((w4.alloc (.cells (cs .i64 Z5) 25)).setRow w4.heap.size (cs .i64 [t1, t2, t3, t4, t5]) = V) := ⟨_, rfl⟩
       have b2 : Hid (Below w4.heap.size w4 V2w) := by rw [← HV2.out]; exact below_arr w4 _ _ _ _
       have D2 : Hid (Arr .i64 25 V2w w4.heap.size [t1, t2, t3, t4, t5]) := by rw [← HV2.out]; exact A2.out.setRow _
       have F4 : Hid (Below w2.heap.size w2 V2w) := by
         have k1 := B3.out.size
         have k2 := b1.out.size
         have k3 := B4.out.size
         exact ((B3.out.trans (b1.out.mono k1)).trans (B4.out.mono (by omega))).trans (b2.out.mono (by omega))
       have S4 : Hid (Sln V2w a n l) := (hS.out.below B2.out).below F4.out
       clear H4)
    | (refine wpList_st0 (k := .i64) (t := 25) (l := Z5) (l2 := [t1, t2, t3, t4, t5]) (by rfl) (by rfl) 25 (.tmp 7) (.tmp 31) (by rfl) (by rfl) (by rfl) A2 sz25s (by rfl) ?_; refine (show _ = V2w from HV2.out) ▸ ?_)
    | (go_at_call 18; refine (refget_all S4 hc hnc).mono ?_; rintro en w5 ⟨aw, mw, cw, rfl, H5⟩
       rw [HS.out, He1.out]
       have B5 : Hid (Below V2w.heap.size V2w w5) := H5.out.2
       have O5 : Hid (Own w5 V2w.heap.size aw mw cw L) := by rw [← HL.out]; exact H5.out.1
       have A3 : Hid (Arr .i64 25 (w5.alloc (.cells (cs .i64 Z5) 25)) w5.heap.size Z5) := Arr.new _ _ _ _
       obtain ⟨V3w, HV3⟩ : ∃ V, Hid ((w5.alloc (.cells (cs .i64 Z5) 25)).setRow w5.heap.size (cs .i64 [s1, s2, s3, s4, s5]) = V) := ⟨_, rfl⟩
       have b3 : Hid (Below w5.heap.size w5 V3w) := by rw [← HV3.out]; exact below_arr w5 _ _ _ _
       have D3 : Hid (Arr .i64 25 V3w w5.heap.size [s1, s2, s3, s4, s5]) := by rw [← HV3.out]; exact A3.out.setRow _
       have S5 : Hid (Sln V3w a n l) := (S4.out.below B5.out).below b3.out
       clear H5)
    | (refine wpList_st0 (k := .i64) (t := 25) (l := Z5) (l2 := [s1, s2, s3, s4, s5]) (by rfl) (by rfl) 25 (.tmp 10) (.tmp 37) (by rfl) (by rfl) (by rfl) A3 sz25s (by rfl) ?_; refine (show _ = V3w from HV3.out) ▸ ?_)
    | (go_at_call 19; refine (refhead_all S5 hc hnc).mono ?_; rintro en w6 ⟨qq, rfl, H6⟩
       rw [HT.out, Hn2.out, He2.out]
       have B6 : Hid (Below V3w.heap.size V3w w6) := H6.out.2
       have A4 : Hid (Arr .i64 25 (w6.alloc (.cells (cs .i64 Z5) 25)) w6.heap.size Z5) := Arr.new _ _ _ _
       obtain ⟨V4w, HV4⟩ : ∃ V, Hid ((w6.alloc (.cells (cs .i64 Z5) 25)).setRow w6.heap.size (cs .i64 [t1, t2, t3, t4, t5]) = V) := ⟨_, rfl⟩
       have b4 : Hid (Below w6.heap.size w6 V4w) := by rw [← HV4.out]; exact below_arr w6 _ _ _ _
       have D4 : Hid (Arr .i64 25 V4w w6.heap.size [t1, t2, t3, t4, t5]) := by rw [← HV4.out]; exact A4.out.setRow _
       clear H6)
    | (refine wpList_st0 (k := .i64) (t := 25) (l := Z5) (l2 := [t1, t2, t3, t4, t5]) (by rfl) (by rfl) 25 (.tmp 13) (.tmp 43) (by rfl) (by rfl) (by rfl) A4 sz25s (by rfl) ?_; refine (show _ = V4w from HV4.out) ▸ ?_))
  have G : Hid (Fg w V4w E w3.heap.size w4.heap.size w5.heap.size w6.heap.size gi l a n ac mc cc aw mw cw L [s1, s2, s3, s4, s5] [t1, t2, t3, t4, t5]) := by
    have k3 := B3.out.size
    have k31 := b1.out.size
    have k4 := B4.out.size
    have k41 := b2.out.size
    have k5 := B5.out.size
    have k51 := b3.out.size
    have k6 := B6.out.size
    have k61 := b4.out.size
    have c6 : Below V3w.heap.size V3w V4w := B6.out.trans (b4.out.mono k6)
    have c5 : Below V2w.heap.size V2w V4w := (B5.out.trans (b3.out.mono k5)).trans (c6.mono (by omega))
    have c4 : Below V1w.heap.size V1w V4w := (B4.out.trans (b2.out.mono k4)).trans (c5.mono (by omega))
    have c3 : Below w3.heap.size w3 V4w := b1.out.trans (c4.mono k31)
    have c2 : Below w2.heap.size w2 V4w := B3.out.trans (c3.mono k3)
    have bw : Below w.heap.size w V4w := B2.out.trans (c2.mono B2.out.size)
    exact ⟨D1.out.below c4 D1.out.lt, D2.out.below c5 D2.out.lt, D3.out.below c6 D3.out.lt, D4.out, H2.out.2.2.1.below c2 H2.out.2.2.1.lt, hS.out.below bw, (O3.out.base B2.out.size).below c3, (O5.out.base (by have := B2.out.size; omega)).below ((b3.out).trans (c6.mono k51)), hE.out.below bw, hM.out.below bw hM.out.lt, hK.out.below bw (kst_pos hK.out), bw⟩
  have HN : Hid (N = n + 6) := H2.out.1
  obtain ⟨g4, HG4⟩ : ∃ g, Hid (w3.heap.size = g) := ⟨_, rfl⟩
  obtain ⟨g7, HG7⟩ : ∃ g, Hid (w4.heap.size = g) := ⟨_, rfl⟩
  obtain ⟨g10, HG10⟩ : ∃ g, Hid (w5.heap.size = g) := ⟨_, rfl⟩
  obtain ⟨g13, HG13⟩ : ∃ g, Hid (w6.heap.size = g) := ⟨_, rfl⟩
  rw [HG4.out, HG7.out, HG10.out, HG13.out] at G ⊢
  clear HG4 HG7 HG10 HG13 A1 A2 A3 A4 D1 D2 D3 D4 B3 B4 B5 B6 b1 b2 b3 b4 O3 O5 I2 I3 M2 M3 E2 E3 K2 S4 S5 F4 Z2 N2 HV1 HV2 HV3 HV4 H1 S1' B2 H2
  obtain ⟨W, HW⟩ : ∃ W, Hid (V4w = W) := ⟨_, rfl⟩
  rw [HW.out] at G ⊢
  clear HW
  have LB : Hid (L.length ≤ 1024) := by
    by_cases h : e1 = 0
    · exact (BK.out h).2.1
    · rw [← HL.out, getS_nil (by rw [He1.out]; exact h)]
      show ([] : List Nat).length ≤ 1024
      simp
  have lm := G.out.oc.len
  have lw := G.out.ow.len
  have lb := LB.out
  have CV1 := conv_n (k := cc) (show Hid (Sln W ac mc L) from G.out.oc.sln (by omega))
  have CV2 := conv_n (k := cw) (show Hid (Sln W aw mw L) from G.out.ow.sln (by omega))
  have EQ1 := fun w' => eq25 (s1 : Int) s2 s3 s4 s5 w'
  have EQ2 := fun w' => eq25 (t1 : Int) t2 t3 t4 t5 w'
  have SE : Hid (Sent W 18 E) := G.out.se
  have ML : Hid (mc = L.length ∧ mw = L.length) := ⟨lm, lw⟩
  clear lm lw lb hM hK hE
  have qa0 : W.cell? ⟨g4, 0, none⟩ = some (.int .i64 (s1 : Int)) := G.out.d4.cell (i := 0) (by simp)
  have qa1 : W.cell? ⟨g4, 1, none⟩ = some (.int .i64 (s2 : Int)) := G.out.d4.cell (i := 1) (by simp)
  have qa2 : W.cell? ⟨g4, 2, none⟩ = some (.int .i64 (s3 : Int)) := G.out.d4.cell (i := 2) (by simp)
  have qa3 : W.cell? ⟨g4, 3, none⟩ = some (.int .i64 (s4 : Int)) := G.out.d4.cell (i := 3) (by simp)
  have qa4 : W.cell? ⟨g4, 4, none⟩ = some (.int .i64 (s5 : Int)) := G.out.d4.cell (i := 4) (by simp)
  have qb0 : W.cell? ⟨g10, 0, none⟩ = some (.int .i64 (s1 : Int)) := G.out.d10.cell (i := 0) (by simp)
  have qb1 : W.cell? ⟨g10, 1, none⟩ = some (.int .i64 (s2 : Int)) := G.out.d10.cell (i := 1) (by simp)
  have qb2 : W.cell? ⟨g10, 2, none⟩ = some (.int .i64 (s3 : Int)) := G.out.d10.cell (i := 2) (by simp)
  have qb3 : W.cell? ⟨g10, 3, none⟩ = some (.int .i64 (s4 : Int)) := G.out.d10.cell (i := 3) (by simp)
  have qb4 : W.cell? ⟨g10, 4, none⟩ = some (.int .i64 (s5 : Int)) := G.out.d10.cell (i := 4) (by simp)
  have qc0 : W.cell? ⟨g7, 0, none⟩ = some (.int .i64 (t1 : Int)) := G.out.d7.cell (i := 0) (by simp)
  have qc1 : W.cell? ⟨g7, 1, none⟩ = some (.int .i64 (t2 : Int)) := G.out.d7.cell (i := 1) (by simp)
  have qc2 : W.cell? ⟨g7, 2, none⟩ = some (.int .i64 (t3 : Int)) := G.out.d7.cell (i := 2) (by simp)
  have qc3 : W.cell? ⟨g7, 3, none⟩ = some (.int .i64 (t4 : Int)) := G.out.d7.cell (i := 3) (by simp)
  have qc4 : W.cell? ⟨g7, 4, none⟩ = some (.int .i64 (t5 : Int)) := G.out.d7.cell (i := 4) (by simp)
  have qd0 : W.cell? ⟨g13, 0, none⟩ = some (.int .i64 (t1 : Int)) := G.out.d13.cell (i := 0) (by simp)
  have qd1 : W.cell? ⟨g13, 1, none⟩ = some (.int .i64 (t2 : Int)) := G.out.d13.cell (i := 1) (by simp)
  have qd2 : W.cell? ⟨g13, 2, none⟩ = some (.int .i64 (t3 : Int)) := G.out.d13.cell (i := 2) (by simp)
  have qd3 : W.cell? ⟨g13, 3, none⟩ = some (.int .i64 (t4 : Int)) := G.out.d13.cell (i := 3) (by simp)
  have qd4 : W.cell? ⟨g13, 4, none⟩ = some (.int .i64 (t5 : Int)) := G.out.d13.cell (i := 4) (by simp)
  by_cases he : e1 = 0
  · subst he
    obtain ⟨ok, l10, fr⟩ := BK.out rfl
    have OK : Hid (okN [1, (s1 : Int), s2, s3, s4, s5, 0] = true) := ok
    have FR : Hid (frameL [1, s1, s2, s3, s4, s5, mc] L = l) := by rw [ML.out.1]; exact fr
    have m10 : mc ≤ 1024 := by rw [ML.out.1]; exact l10
    clear ok l10 fr
    go_upto_region 12 with (first
      | (go_at_call 20; refine (bnum_any (by assumption) (by assumption) (by assumption)).mono ?_; rintro en wN ⟨rfl, HN8⟩
         have G : Hid (Fg w wN E g4 g7 g10 g13 gi l a n ac mc cc aw mw cw L [s1, s2, s3, s4, s5] [t1, t2, t3, t4, t5]) := G.out.below HN8.out
         have SE : Hid (Sent wN 18 E) := G.out.se
         have KB : Hid (Blk wN gi (l ++ marks)) := G.out.bi
         have KS : Hid (Sln wN a n l) := G.out.sl
         have qc0 : wN.cell? ⟨g7, 0, none⟩ = some (.int .i64 (t1 : Int)) := G.out.d7.cell (i := 0) (by simp)
         have qc1 : wN.cell? ⟨g7, 1, none⟩ = some (.int .i64 (t2 : Int)) := G.out.d7.cell (i := 1) (by simp)
         have qc2 : wN.cell? ⟨g7, 2, none⟩ = some (.int .i64 (t3 : Int)) := G.out.d7.cell (i := 2) (by simp)
         have qc3 : wN.cell? ⟨g7, 3, none⟩ = some (.int .i64 (t4 : Int)) := G.out.d7.cell (i := 3) (by simp)
         have qc4 : wN.cell? ⟨g7, 4, none⟩ = some (.int .i64 (t5 : Int)) := G.out.d7.cell (i := 4) (by simp)
         have qd0 : wN.cell? ⟨g13, 0, none⟩ = some (.int .i64 (t1 : Int)) := G.out.d13.cell (i := 0) (by simp)
         have qd1 : wN.cell? ⟨g13, 1, none⟩ = some (.int .i64 (t2 : Int)) := G.out.d13.cell (i := 1) (by simp)
         have qd2 : wN.cell? ⟨g13, 2, none⟩ = some (.int .i64 (t3 : Int)) := G.out.d13.cell (i := 2) (by simp)
         have qd3 : wN.cell? ⟨g13, 3, none⟩ = some (.int .i64 (t4 : Int)) := G.out.d13.cell (i := 3) (by simp)
         have qd4 : wN.cell? ⟨g13, 4, none⟩ = some (.int .i64 (t5 : Int)) := G.out.d13.cell (i := 4) (by simp)
         have qa0 : wN.cell? ⟨g4, 0, none⟩ = some (.int .i64 (s1 : Int)) := G.out.d4.cell (i := 0) (by simp)
         have qa1 : wN.cell? ⟨g4, 1, none⟩ = some (.int .i64 (s2 : Int)) := G.out.d4.cell (i := 1) (by simp)
         have qa2 : wN.cell? ⟨g4, 2, none⟩ = some (.int .i64 (s3 : Int)) := G.out.d4.cell (i := 2) (by simp)
         have qa3 : wN.cell? ⟨g4, 3, none⟩ = some (.int .i64 (s4 : Int)) := G.out.d4.cell (i := 3) (by simp)
         have qa4 : wN.cell? ⟨g4, 4, none⟩ = some (.int .i64 (s5 : Int)) := G.out.d4.cell (i := 4) (by simp)
         clear HN8)
      | (go_at_call 12; refine (kept_n KB HN KS).mono ?_; rintro en wK ⟨rfl, HK8⟩
         obtain ⟨j, hj⟩ := HK8.out
         have G : Hid (Fg w wK E g4 g7 g10 g13 gi l a n ac mc cc aw mw cw L [s1, s2, s3, s4, s5] [t1, t2, t3, t4, t5]) := G.out.below (by rw [hj]; exact below_drewN (Below.refl _ _) j)
         have qa0 : wK.cell? ⟨g4, 0, none⟩ = some (.int .i64 (s1 : Int)) := G.out.d4.cell (i := 0) (by simp)
         have qa1 : wK.cell? ⟨g4, 1, none⟩ = some (.int .i64 (s2 : Int)) := G.out.d4.cell (i := 1) (by simp)
         have qa2 : wK.cell? ⟨g4, 2, none⟩ = some (.int .i64 (s3 : Int)) := G.out.d4.cell (i := 2) (by simp)
         have qa3 : wK.cell? ⟨g4, 3, none⟩ = some (.int .i64 (s4 : Int)) := G.out.d4.cell (i := 3) (by simp)
         have qa4 : wK.cell? ⟨g4, 4, none⟩ = some (.int .i64 (s5 : Int)) := G.out.d4.cell (i := 4) (by simp)
         clear hj HK8))
    have MS : Hid (Mst wK) := G.out.ms
    have KS8 : Hid (Kst wK) := G.out.ks
    have SC : Hid (Sln wK ac mc L) := G.out.oc.sln (by omega)
    have ZC : Hid (ac = none → cc = 0) := G.out.oc.cap0
    go_wp2_with (go_at_call 11; refine (put_ok s1 s2 s3 s4 s5 mc cc ac L MS KS8 SC ZC OK.out m10).mono ?_; rintro en wP ⟨af, Nf, cf, rfl, HP⟩
                 have P1 : Hid (Below wK.heap.size wK wP) := HP.out.2.2
                 have CF := conv_n (k := cf) (show Hid (Sln wP af Nf l) from by have h7 := HP.out.1; rw [FR.out] at h7; exact h7.sln (by have := HP.out.2.1; omega))
                 have CA := conv_n (k := c) (show Hid (Sln wP a n l) from G.out.sl.below P1.out)
                 have FIN : Hid (Below w.heap.size w wP) := G.out.bel.trans (P1.out.mono G.out.bel.size))
    go_ret
    exact ⟨rfl, FIN.out⟩
  · have i1 : ((e1 : Int) == 0) = false := by simp; exact he
    have i2 : ((e1 : Int) != 0) = true := by simp; exact he
    clear he
    go_wp2_with (first
      | (go_at_call 20; refine (bnum_any (by assumption) (by assumption) (by assumption)).mono ?_; rintro en wN ⟨rfl, HN8⟩
         have G : Hid (Fg w wN E g4 g7 g10 g13 gi l a n ac mc cc aw mw cw L [s1, s2, s3, s4, s5] [t1, t2, t3, t4, t5]) := G.out.below HN8.out
         have SE : Hid (Sent wN 18 E) := G.out.se
         have KB : Hid (Blk wN gi (l ++ marks)) := G.out.bi
         have KS : Hid (Sln wN a n l) := G.out.sl
         have qc0 : wN.cell? ⟨g7, 0, none⟩ = some (.int .i64 (t1 : Int)) := G.out.d7.cell (i := 0) (by simp)
         have qc1 : wN.cell? ⟨g7, 1, none⟩ = some (.int .i64 (t2 : Int)) := G.out.d7.cell (i := 1) (by simp)
         have qc2 : wN.cell? ⟨g7, 2, none⟩ = some (.int .i64 (t3 : Int)) := G.out.d7.cell (i := 2) (by simp)
         have qc3 : wN.cell? ⟨g7, 3, none⟩ = some (.int .i64 (t4 : Int)) := G.out.d7.cell (i := 3) (by simp)
         have qc4 : wN.cell? ⟨g7, 4, none⟩ = some (.int .i64 (t5 : Int)) := G.out.d7.cell (i := 4) (by simp)
         have qd0 : wN.cell? ⟨g13, 0, none⟩ = some (.int .i64 (t1 : Int)) := G.out.d13.cell (i := 0) (by simp)
         have qd1 : wN.cell? ⟨g13, 1, none⟩ = some (.int .i64 (t2 : Int)) := G.out.d13.cell (i := 1) (by simp)
         have qd2 : wN.cell? ⟨g13, 2, none⟩ = some (.int .i64 (t3 : Int)) := G.out.d13.cell (i := 2) (by simp)
         have qd3 : wN.cell? ⟨g13, 3, none⟩ = some (.int .i64 (t4 : Int)) := G.out.d13.cell (i := 3) (by simp)
         have qd4 : wN.cell? ⟨g13, 4, none⟩ = some (.int .i64 (t5 : Int)) := G.out.d13.cell (i := 4) (by simp)
         have qa0 : wN.cell? ⟨g4, 0, none⟩ = some (.int .i64 (s1 : Int)) := G.out.d4.cell (i := 0) (by simp)
         have qa1 : wN.cell? ⟨g4, 1, none⟩ = some (.int .i64 (s2 : Int)) := G.out.d4.cell (i := 1) (by simp)
         have qa2 : wN.cell? ⟨g4, 2, none⟩ = some (.int .i64 (s3 : Int)) := G.out.d4.cell (i := 2) (by simp)
         have qa3 : wN.cell? ⟨g4, 3, none⟩ = some (.int .i64 (s4 : Int)) := G.out.d4.cell (i := 3) (by simp)
         have qa4 : wN.cell? ⟨g4, 4, none⟩ = some (.int .i64 (s5 : Int)) := G.out.d4.cell (i := 4) (by simp)
         clear HN8)
      | (go_at_call 12; refine (kept_n KB HN KS).mono ?_; rintro en wK ⟨rfl, HK8⟩
         obtain ⟨j, hj⟩ := HK8.out
         have G : Hid (Fg w wK E g4 g7 g10 g13 gi l a n ac mc cc aw mw cw L [s1, s2, s3, s4, s5] [t1, t2, t3, t4, t5]) := G.out.below (by rw [hj]; exact below_drewN (Below.refl _ _) j)
         have qa0 : wK.cell? ⟨g4, 0, none⟩ = some (.int .i64 (s1 : Int)) := G.out.d4.cell (i := 0) (by simp)
         have qa1 : wK.cell? ⟨g4, 1, none⟩ = some (.int .i64 (s2 : Int)) := G.out.d4.cell (i := 1) (by simp)
         have qa2 : wK.cell? ⟨g4, 2, none⟩ = some (.int .i64 (s3 : Int)) := G.out.d4.cell (i := 2) (by simp)
         have qa3 : wK.cell? ⟨g4, 3, none⟩ = some (.int .i64 (s4 : Int)) := G.out.d4.cell (i := 3) (by simp)
         have qa4 : wK.cell? ⟨g4, 4, none⟩ = some (.int .i64 (s5 : Int)) := G.out.d4.cell (i := 4) (by simp)
         clear hj HK8))
    go_ret
    exact ⟨rfl, G.out.bel⟩
end Go.Proofs.YtmkknklkdgkbaaaDoor
