import Derived.Test.YtkdgakcmhnadfaaGreatDoorMSa
import Derived.Test.YtkdgakcmhnadfaaGreatDoorMSi
/- Rb -/
/- The whole message laid out, block by block, gives the digest: on plain numbers. -/
namespace Go.Proofs.YtkdgakcmhnadfaaGreatDoor
set_option linter.unusedVariables false
set_option linter.unusedSimpArgs false
namespace Gs
def cnt8 (c : Nat) : List Nat := [c / 256 ^ 7 % 256, c / 256 ^ 6 % 256, c / 256 ^ 5 % 256, c / 256 ^ 4 % 256, c / 256 ^ 3 % 256, c / 256 ^ 2 % 256, c / 256 ^ 1 % 256, c / 256 ^ 0 % 256]
def gap (n : Nat) : Nat := (119 - n % 64) % 64
def msg (l : List Nat) : List Nat := l ++ ([128] ++ List.replicate (gap l.length) 0 ++ cnt8 (l.length * 8 % 18446744073709551616))
theorem countN_eq (p : List Nat) (hp : p.length = 56) (s0 s1 s2 s3 s4 s5 s6 s7 c : Nat) : countN (p ++ [s0, s1, s2, s3, s4, s5, s6, s7]) c 8 = p ++ cnt8 c := by
  have h : ∀ (k x : Nat) (r : List Nat), (p ++ r).set (56 + k) x = p ++ r.set k x := by
    intro k x r
    rw [List.set_append_right _ _ (by omega)]
    congr 2
    omega
  simp only [countN]
  rw [show (63 - 0 : Nat) = 56 + 7 from rfl, h, show (63 - (0 + 1) : Nat) = 56 + 6 from rfl, h, show (63 - (0 + 1 + 1) : Nat) = 56 + 5 from rfl, h, show (63 - (0 + 1 + 1 + 1) : Nat) = 56 + 4 from rfl, h,
    show (63 - (0 + 1 + 1 + 1 + 1) : Nat) = 56 + 3 from rfl, h, show (63 - (0 + 1 + 1 + 1 + 1 + 1) : Nat) = 56 + 2 from rfl, h, show (63 - (0 + 1 + 1 + 1 + 1 + 1 + 1) : Nat) = 56 + 1 from rfl, h, show (63 - (0 + 1 + 1 + 1 + 1 + 1 + 1 + 1) : Nat) = 56 + 0 from rfl, h]
  rfl
theorem counting_eq (b : List Nat) (hb : b.length = 64) (n : Nat) : counting b n = b.take 56 ++ cnt8 (n * 8 % 18446744073709551616) := by
  have e : b = b.take 56 ++ b.drop 56 := (List.take_append_drop 56 b).symm
  have hd : (b.drop 56).length = 8 := by simp [hb]
  have hp : (b.take 56).length = 56 := by simp [hb]
  match h : b.drop 56, hd with
  | [s0, s1, s2, s3, s4, s5, s6, s7], _ =>
    unfold counting
    rw [e, h, countN_eq _ hp, List.take_left' hp]
theorem wordsN_prefix (A x : List Nat) (n : Nat) (h : 64 * n ≤ A.length) : wordsN (A ++ x) n = wordsN A n := by
  induction n with
  | zero => rfl
  | succ n ih =>
    have e : ((A ++ x).drop (64 * n)).take 64 = (A.drop (64 * n)).take 64 := by
      rw [List.drop_append_of_le_length (by omega), List.take_append_of_le_length (by simp; omega)]
    show after (wordsN (A ++ x) n) _ = after (wordsN A n) _
    rw [ih (by omega), e]
theorem msg_length (l : List Nat) : (msg l).length = 64 * (l.length / 64) + (if l.length % 64 < 56 then 64 else 128) := by
  simp [msg, gap, cnt8]
  split <;> omega
theorem pad_set (t : List Nat) (ht : t.length < 64) : (pad t).set t.length 128 = t ++ ([128] ++ List.replicate (63 - t.length) 0) := by
  have e : 64 - t.length = (63 - t.length) + 1 := by omega
  simp [pad, e, List.replicate_succ]
theorem take56 (t : List Nat) (ht : t.length < 56) : (t ++ ([128] ++ List.replicate (63 - t.length) 0)).take 56 = t ++ ([128] ++ List.replicate (55 - t.length) 0) := by
  rw [List.take_append, List.take_of_length_le (by omega)]
  have e : 56 - t.length = (55 - t.length) + 1 := by omega
  rw [e]
  simp
  omega
theorem sum_msg (l : List Nat) : digest (wordsN (msg l) ((msg l).length / 64)) = sum l := by
  obtain ⟨q, hq⟩ : ∃ q, q = l.length / 64 := ⟨_, rfl⟩
  obtain ⟨t, ht⟩ : ∃ t, t = l.drop (64 * q) := ⟨_, rfl⟩
  have htl : t.length = l.length % 64 := by rw [ht, hq]; simp; omega
  have hr : rest l = pad t := by unfold rest; rw [ht, hq]
  have hw : wordsN (msg l) q = words l := by
    unfold msg words
    rw [wordsN_prefix _ _ _ (by rw [hq]; omega), hq]
  have hd : (msg l).drop (64 * q) = t ++ ([128] ++ List.replicate (gap l.length) 0 ++ cnt8 (l.length * 8 % 18446744073709551616)) := by
    unfold msg
    rw [List.drop_append_of_le_length (by rw [hq]; omega), ht]
  have hc8 : ∀ c, (cnt8 c).length = 8 := fun _ => rfl
  by_cases h : l.length % 64 < 56
  · have hn : (msg l).length / 64 = q + 1 := by rw [msg_length, if_pos h, hq]; omega
    have hg : gap l.length = 55 - t.length := by unfold gap; rw [htl]; omega
    rw [hn]
    unfold sum
    rw [if_pos h, hr]
    show digest (after (wordsN (msg l) q) (((msg l).drop (64 * q)).take 64)) = _
    rw [hw, hd, hg]
    have e1 : (t ++ ([128] ++ List.replicate (55 - t.length) 0 ++ cnt8 (l.length * 8 % 18446744073709551616))).take 64 = t ++ ([128] ++ List.replicate (55 - t.length) 0 ++ cnt8 (l.length * 8 % 18446744073709551616)) := List.take_of_length_le (by simp [hc8]; omega)
    rw [e1, ← htl, pad_set t (by omega), counting_eq _ (by simp; omega), take56 t (by omega)]
    simp
  · have hn : (msg l).length / 64 = q + 1 + 1 := by rw [msg_length, if_neg h, hq]; omega
    have hg : gap l.length = (63 - t.length) + 56 := by unfold gap; rw [htl]; omega
    have hA : (t ++ ([128] ++ List.replicate (63 - t.length) 0)).length = 64 := by simp; omega
    have hd2 : (msg l).drop (64 * q) = (t ++ ([128] ++ List.replicate (63 - t.length) 0)) ++ (List.replicate 56 0 ++ cnt8 (l.length * 8 % 18446744073709551616)) := by
      rw [hd, hg, ← List.replicate_append_replicate]
      simp
    rw [hn]
    unfold sum
    rw [if_neg h, hr]
    show digest (after (after (wordsN (msg l) q) (((msg l).drop (64 * q)).take 64)) (((msg l).drop (64 * (q + 1))).take 64)) = _
    have e1 : ((msg l).drop (64 * q)).take 64 = t ++ ([128] ++ List.replicate (63 - t.length) 0) := by rw [hd2, List.take_left' hA]
    have e2 : ((msg l).drop (64 * (q + 1))).take 64 = List.replicate 56 0 ++ cnt8 (l.length * 8 % 18446744073709551616) := by
      rw [show 64 * (q + 1) = 64 * q + 64 from by omega, ← List.drop_drop, hd2, List.drop_left' hA, List.take_of_length_le (by simp [hc8])]
    rw [hw, e1, e2, ← htl, pad_set t (by omega), counting_eq _ (by simp [pad])]
    rfl
end Gs
end Go.Proofs.YtkdgakcmhnadfaaGreatDoor

/- Rc -/
/- What the document's own filling of a message does to a machine, for all slices. -/
namespace Go.Proofs.YtkdgakcmhnadfaaGreatDoor
open Go.ChangeShapes Go.WideShapes Go.ChangeAt Go.RowKit
set_option linter.unusedVariables false
set_option linter.unusedSimpArgs false
/- a row of the call's own that reads as L -/
def Mes (w wr : World) (v : Value) (L : List Nat) : Prop := ∃ g cap, v = .slice (some ⟨g, 0, none⟩) L.length cap ∧ wr.ownsRow w.heap.size 5 1 v L.length (L.map bv) ∧ Below w.heap.size w wr
theorem app_many {w wr : World} {g cap : Nat} {L l : List Nat} {a : Option Addr} {n c : Nat} (own : wr.ownsRow w.heap.size 5 1 (.slice (some ⟨g, 0, none⟩) L.length cap) L.length (L.map bv)) (bel : Below w.heap.size w wr) (hS : Sln wr a n l) (hc : a = none → c = 0) (hb : L.length + n ≤ 140737488355328) :
    ∃ v' w', (Builtin.append_ #[33, 33] 33 #[.slice (some ⟨g, 0, none⟩) L.length cap, .slice a n c]).run Tryz.prog wr = .ok v' w' ∧ Mes w w' v' (L ++ l) := by
  obtain ⟨i, hi, hz0, hz1, hz2⟩ := info_parts info5
  have e := hS.len
  by_cases hl : l = []
  · subst hl
    have e0 : n = 0 := e
    subst e0
    obtain ⟨w', hr, ho, hg⟩ := app_fits own hS hc (by
      rcases own.2 with ⟨h1, _⟩ | ⟨g', cap', cur, h1, _, _, h5, _⟩
      · simp at h1
      · simp only [Value.slice.injEq] at h1
        omega)
    refine ⟨_, w', hr, g, cap, by simp, by simpa using ho, bel.grown hg bel.size (fun j e => by simp at e; have := own_lt own; omega)⟩
  · obtain ⟨b, off, rfl, _, r⟩ := hS.sli.2.2.resolve_left hl
    obtain ⟨v', w', hrun, hown, hgr, _⟩ := run_append_own (P := Tryz.prog) wr w.heap.size 33 33 5 i (.int .u8 0) 1 1 Tryz.underlying33 hi hz0 hz1 hz2 rfl (by decide) _ L.length (L.map bv) own ⟨b, off, none⟩ n c (l.map bv) (by simp [e]) (map_cells r) (map_one _) (by unfold maxLen; omega) (by omega) bel.size
    have hpos : 0 < n := by rw [e]; exact List.length_pos_iff.2 hl
    rcases hown.2 with ⟨_, h0⟩ | ⟨g', cap', cur, rfl, _⟩
    · omega
    · have e1 : L.length + n = (L ++ l).length := by simp [e]
      refine ⟨_, w', hrun, g', cap', by rw [e1], ?_, bel.grown hgr bel.size (fun j e => by have e' : some g = some j := e; simp at e'; have := own_lt own; omega)⟩
      rw [List.map_append, ← e1]
      exact hown
theorem app_sing {w wr : World} {g cap : Nat} {L : List Nat} (own : wr.ownsRow w.heap.size 5 1 (.slice (some ⟨g, 0, none⟩) L.length cap) L.length (L.map bv)) (bel : Below w.heap.size w wr) (x : Nat) (hx : x < 256) (hb : L.length + 1 ≤ 140737488355328) :
    ∃ v' w', (Builtin.append_ #[33, 33] 33 #[.slice (some ⟨g, 0, none⟩) L.length cap, .slice (some ⟨wr.heap.size, 0, none⟩) 1 1]).run Tryz.prog (wr.alloc (.cells #[.int .u8 (x : Int)] 5)) = .ok v' w' ∧ Mes w w' v' (L ++ [x]) := by
  have b1 : Blk (wr.alloc (.cells #[.int .u8 (x : Int)] 5)) wr.heap.size [x] := by
    show (wr.heap.push _)[wr.heap.size]? = _
    simp [bv]
  have s1 := b1.sln (by intro z hz; simp at hz; omega) (by simp)
  exact app_many (own.alloc _) (bel.alloc bel.size _) s1 (by simp) hb
def slen' : Value → Nat
  | .slice _ n _ => n
  | _ => 0
theorem u64_wrap (x : Int) : IntKind.u64.wrap x = x % 18446744073709551616 := by simp [IntKind.wrap, IntKind.bits, IntKind.signed]
theorem mes_new (w : World) : Mes w (w.alloc (.cells #[] 5)) (.slice (some ⟨w.heap.size, 0, none⟩) 0 0) [] :=
  ⟨w.heap.size, 0, rfl, World.ownsRow_made w _ 0 (Nat.le_refl _) (by unfold maxLen; omega) rfl, (Below.refl _ _).alloc (Nat.le_refl _) _⟩
set_option maxRecDepth 20000 in
set_option maxHeartbeats 2000000 in
theorem message_n {w : World} {a : Option Addr} {n k : Nat} {l : List Nat} (hS : Hid (Sln w a n l)) (hk : Hid (a = none → k = 0)) :
    Calls Tryz.prog 84 #[.slice a n k] w fun e w' => ∃ v, e = .returned v ∧ Hid (Mes w w' v (Gs.msg l)) := by
  have m := hS.out.sli.2.1
  have hn := hS.out.len
  rw [← hn] at m
  obtain ⟨v1, w1, r1, M1⟩ := app_many (w := w) (wr := w.alloc (.cells #[] 5)) (g := w.heap.size) (cap := 0) (L := []) (a := a) (n := n) (c := k) (l := l) (World.ownsRow_made w _ 0 (Nat.le_refl _) (by unfold maxLen; omega) rfl) ((Below.refl _ _).alloc (Nat.le_refl _) _) (hS.out.below ((Below.refl _ _).alloc (Nat.le_refl _) _)) hk.out (by simp; omega)
  obtain ⟨g1, c1, rfl, o1, b1⟩ := M1
  obtain ⟨v2, w2, r2, M2⟩ := app_sing o1 b1 128 (by omega) (by simp; omega)
  rw [List.nil_append] at r1 r2 M2
  have AP1 : Hid ((Builtin.append_ #[33, 33] 33 #[.slice (some ⟨w.heap.size, 0, none⟩) 0 0, .slice a n k]).run Tryz.prog (w.alloc (.cells #[] 5)) = .ok (.slice (some ⟨g1, 0, none⟩) l.length c1) w1) := r1
  have AP2 : Hid ((Builtin.append_ #[33, 33] 33 #[.slice (some ⟨g1, 0, none⟩) l.length c1, .slice (some ⟨w1.heap.size, 0, none⟩) 1 1]).run Tryz.prog (w1.alloc (.cells #[.int .u8 128] 5)) = .ok v2 w2) := r2
  have H2 : Hid (Mes w w2 v2 (l ++ [128])) := M2
  clear r1 r2 M2 o1 b1
  go_enter Tryz.func84, Tryz.ntmps84
  go_wp2_with (first | (at_builtin; refine wpList_app (by rfl) (.tmp 6) (.tmp 7) (by rfl) (by rfl) (by rfl) (by rfl) AP1 ?_) | (at_builtin; refine wpList_app (by rfl) (.tmp 8) (.tmp 9) (by rfl) (by rfl) (by rfl) (by rfl) AP2 ?_))
  obtain ⟨N, HN⟩ : ∃ N, Hid (N = l.length) := ⟨_, rfl⟩
  have nN : Hid (n = N) := by rw [HN.out]; exact hn
  clear AP1 AP2
  go_loopw [3] (fun tv wr => ∃ z : Nat, z ≤ Gs.gap l.length ∧ Hid (Mes w wr tv (l ++ [128] ++ List.replicate z 0))) (fun tv _ => (N + 200) - slen' tv)
  case atStart => exact ⟨0, Nat.zero_le _, by have := H2.out; simpa [Hid] using this⟩
  case round =>
    obtain ⟨z, hz, HM⟩ := hrel
    obtain ⟨g, cap, rfl, own, bel⟩ := HM.out
    obtain ⟨q, hq⟩ : ∃ q, q = (l ++ [128] ++ List.replicate z 0).length := ⟨_, rfl⟩
    have hq2 : q = l.length + 1 + z := by rw [hq]; simp; omega
    have hgp : Gs.gap l.length < 64 := by unfold Gs.gap; omega
    have hgm : z < Gs.gap l.length → q % 64 ≠ 56 := by unfold Gs.gap; omega
    have hge : z = Gs.gap l.length → q % 64 = 56 := by unfold Gs.gap; omega
    obtain ⟨r, hr⟩ : ∃ r, r = q % 64 := ⟨_, rfl⟩
    have t1 : Int.tmod (q : Int) 64 = (r : Int) := by rw [Int.tmod_eq_emod_of_nonneg (by omega)]; omega
    have t2 : (q : Int) % 64 = (r : Int) := by omega
    rw [← hq]
    by_cases hlt : z < Gs.gap l.length
    · have i1 : ¬ ((r : Int) = 56) := by have := hgm hlt; omega
      obtain ⟨v', w', ap, MM⟩ := app_sing own bel 0 (by omega) (by rw [← hq]; omega)
      rw [← hq] at ap
      have AP : Hid ((Builtin.append_ #[33, 33] 33 #[.slice (some ⟨g, 0, none⟩) q cap, .slice (some ⟨wr.heap.size, 0, none⟩) 1 1]).run Tryz.prog (wr.alloc (.cells #[.int .u8 0] 5)) = .ok v' w') := ap
      have e1 : l ++ [128] ++ List.replicate z 0 ++ [0] = l ++ [128] ++ List.replicate (z + 1) 0 := by rw [List.replicate_succ']; simp
      rw [e1] at MM
      have MM2 : Hid (Mes w w' v' (l ++ [128] ++ List.replicate (z + 1) 0)) := MM
      have SV : Hid (slen' v' = q + 1) := by
        obtain ⟨g', cap', h8, _⟩ := MM
        have h9 : slen' v' = q + 1 := by rw [h8, hq2]; simp [slen']; omega
        exact h9
      clear MM
      have hQ : Hid (q < N + 200) := by
        have h9 : q < N + 200 := by rw [HN.out]; omega
        exact h9
      have hq0 : Hid (q = (l ++ [128] ++ List.replicate z 0).length) := hq
      clear ap hr hq hq2 hgm hge own bel HM hn
      go_wp2_with (at_builtin; refine wpList_app (by rfl) (.tmp 15) (.tmp 16) (by rfl) (by rfl) (by rfl) (by rfl) AP ?_)
      go_roundw
      case rel => exact ⟨z + 1, by omega, MM2.out⟩
      case measure =>
        have h2 := hQ.out
        show N + 200 - slen' v' < N + 200 - q
        rw [SV.out]
        omega
    · have ez : z = Gs.gap l.length := by omega
      have i1 : (r : Int) = 56 := by have := hge ez; omega
      obtain ⟨c, C⟩ : ∃ c, Hid (l.length * 8 % 18446744073709551616 = c) := ⟨_, rfl⟩
      have ec : IntKind.u64.wrap ((l.length : Int) * 8) = (c : Int) := by
        have h : IntKind.u64.wrap ((l.length : Int) * 8) = ((l.length : Int) * 8) % 18446744073709551616 := by simp [IntKind.wrap, IntKind.bits, IntKind.signed]
        rw [h, ← C.out]; omega
      have CB : Hid (c < 18446744073709551616) := by
        have h9 : c < 18446744073709551616 := by rw [← C.out]; exact Nat.mod_lt _ (by decide)
        exact h9
      have el : IntKind.u64.wrap (l.length : Int) = (l.length : Int) := by
        have h : IntKind.u64.wrap (l.length : Int) = (l.length : Int) % 18446744073709551616 := by simp [IntKind.wrap, IntKind.bits, IntKind.signed]
        rw [h]; omega
      obtain ⟨P, HP⟩ : ∃ P, Hid (l ++ [128] ++ List.replicate z 0 = P) := ⟨l ++ [128] ++ List.replicate z 0, show _ = _ from rfl⟩
      have M3 : Hid (Mes w wr (.slice (some ⟨g, 0, none⟩) q cap) P) := by rw [hq, ← HP.out]; exact HM.out
      have PL : Hid (P.length ≤ l.length + 64) := by
        have h9 : P.length ≤ l.length + 64 := by rw [← HP.out, ← hq]; omega
        exact h9
      have FE : Hid (P ++ Gs.cnt8 c = Gs.msg l) := by
        rw [← HP.out, ← C.out, ez]
        simp [Gs.msg, Hid]
      have hll : Hid (l.length ≤ 140737488352256) := by
        have h9 : l.length ≤ 140737488352256 := by omega
        exact h9
      clear own bel HM hq hq2 hgm hge hr hz hgp
      go_wp2
      go_loopw [5, 3] (fun ti tv wr => ∃ i : Nat, i ≤ 8 ∧ ti = .int .i64 i ∧ Hid (Mes w wr tv (P ++ (Gs.cnt8 c).take i))) (fun ti _ _ => 8 - (intOf ti).toNat)
      case atStart => exact ⟨0, by omega, rfl, by have := M3.out; simpa [Hid] using this⟩
      case round =>
        clear M3
        obtain ⟨i, hi, rfl, H3⟩ := hrel
        obtain ⟨g3, cap3, rfl, own, bel⟩ := H3.out
        obtain ⟨u, hu⟩ : ∃ u, u = (P ++ (Gs.cnt8 c).take i).length := ⟨_, rfl⟩
        have hu2 : u ≤ 140737488352256 + 72 := by rw [hu]; have h1 := PL.out; have h2 := hll.out; have h3 : (Gs.cnt8 c).length = 8 := rfl; simp [h3]; omega
        rw [← hu]
        by_cases hlt : i < 8
        · clear H3 hi
          have hc : i = 0 ∨ i = 1 ∨ i = 2 ∨ i = 3 ∨ i = 4 ∨ i = 5 ∨ i = 6 ∨ i = 7 := by omega
          clear hlt
          rcases hc with rfl | rfl | rfl | rfl | rfl | rfl | rfl | rfl
          · obtain ⟨x, X⟩ : ∃ x, Hid (c / 256 ^ 7 % 256 = x) := ⟨c / 256 ^ 7 % 256, show _ = _ from rfl⟩
            have ex : IntKind.u64.wrap ((c : Int) / 72057594037927936) % 256 = (x : Int) := by rw [u64_wrap, ← X.out]; have := CB.out; omega
            have hx : x < 256 := by rw [← X.out]; exact Nat.mod_lt _ (by decide)
            obtain ⟨v', w', ap, MM⟩ := app_sing own bel x hx (by rw [← hu]; omega)
            rw [← hu] at ap
            have AP : Hid ((Builtin.append_ #[33, 33] 33 #[.slice (some ⟨g3, 0, none⟩) u cap3, .slice (some ⟨wr.heap.size, 0, none⟩) 1 1]).run Tryz.prog (wr.alloc (.cells #[.int .u8 (x : Int)] 5)) = .ok v' w') := ap
            have MM2 : Hid (Mes w w' v' (P ++ (Gs.cnt8 c).take (0 + 1))) := by
              have e2 : P ++ (Gs.cnt8 c).take (0 + 1) = P ++ (Gs.cnt8 c).take 0 ++ [x] := by rw [← X.out, List.append_assoc]; rfl
              rw [e2]; exact MM
            clear ap MM own bel hu hu2
            go_wp2_with (at_builtin; (try rw [ex]); refine wpList_app (by rfl) (.tmp 26) (.tmp 35) (by rfl) (by rfl) (by rfl) (by rfl) AP ?_)
            go_roundw
            case rel => exact ⟨1, by omega, rfl, MM2.out⟩
            case measure => simp [intOf]
          · obtain ⟨x, X⟩ : ∃ x, Hid (c / 256 ^ 6 % 256 = x) := ⟨c / 256 ^ 6 % 256, show _ = _ from rfl⟩
            have ex : IntKind.u64.wrap ((c : Int) / 281474976710656) % 256 = (x : Int) := by rw [u64_wrap, ← X.out]; have := CB.out; omega
            have hx : x < 256 := by rw [← X.out]; exact Nat.mod_lt _ (by decide)
            obtain ⟨v', w', ap, MM⟩ := app_sing own bel x hx (by rw [← hu]; omega)
            rw [← hu] at ap
            have AP : Hid ((Builtin.append_ #[33, 33] 33 #[.slice (some ⟨g3, 0, none⟩) u cap3, .slice (some ⟨wr.heap.size, 0, none⟩) 1 1]).run Tryz.prog (wr.alloc (.cells #[.int .u8 (x : Int)] 5)) = .ok v' w') := ap
            have MM2 : Hid (Mes w w' v' (P ++ (Gs.cnt8 c).take (1 + 1))) := by
              have e2 : P ++ (Gs.cnt8 c).take (1 + 1) = P ++ (Gs.cnt8 c).take 1 ++ [x] := by rw [← X.out, List.append_assoc]; rfl
              rw [e2]; exact MM
            clear ap MM own bel hu hu2
            go_wp2_with (at_builtin; (try rw [ex]); refine wpList_app (by rfl) (.tmp 26) (.tmp 35) (by rfl) (by rfl) (by rfl) (by rfl) AP ?_)
            go_roundw
            case rel => exact ⟨2, by omega, rfl, MM2.out⟩
            case measure => simp [intOf]
          · obtain ⟨x, X⟩ : ∃ x, Hid (c / 256 ^ 5 % 256 = x) := ⟨c / 256 ^ 5 % 256, show _ = _ from rfl⟩
            have ex : IntKind.u64.wrap ((c : Int) / 1099511627776) % 256 = (x : Int) := by rw [u64_wrap, ← X.out]; have := CB.out; omega
            have hx : x < 256 := by rw [← X.out]; exact Nat.mod_lt _ (by decide)
            obtain ⟨v', w', ap, MM⟩ := app_sing own bel x hx (by rw [← hu]; omega)
            rw [← hu] at ap
            have AP : Hid ((Builtin.append_ #[33, 33] 33 #[.slice (some ⟨g3, 0, none⟩) u cap3, .slice (some ⟨wr.heap.size, 0, none⟩) 1 1]).run Tryz.prog (wr.alloc (.cells #[.int .u8 (x : Int)] 5)) = .ok v' w') := ap
            have MM2 : Hid (Mes w w' v' (P ++ (Gs.cnt8 c).take (2 + 1))) := by
              have e2 : P ++ (Gs.cnt8 c).take (2 + 1) = P ++ (Gs.cnt8 c).take 2 ++ [x] := by rw [← X.out, List.append_assoc]; rfl
              rw [e2]; exact MM
            clear ap MM own bel hu hu2
            go_wp2_with (at_builtin; (try rw [ex]); refine wpList_app (by rfl) (.tmp 26) (.tmp 35) (by rfl) (by rfl) (by rfl) (by rfl) AP ?_)
            go_roundw
            case rel => exact ⟨3, by omega, rfl, MM2.out⟩
            case measure => simp [intOf]
          · obtain ⟨x, X⟩ : ∃ x, Hid (c / 256 ^ 4 % 256 = x) := ⟨c / 256 ^ 4 % 256, show _ = _ from rfl⟩
            have ex : IntKind.u64.wrap ((c : Int) / 4294967296) % 256 = (x : Int) := by rw [u64_wrap, ← X.out]; have := CB.out; omega
            have hx : x < 256 := by rw [← X.out]; exact Nat.mod_lt _ (by decide)
            obtain ⟨v', w', ap, MM⟩ := app_sing own bel x hx (by rw [← hu]; omega)
            rw [← hu] at ap
            have AP : Hid ((Builtin.append_ #[33, 33] 33 #[.slice (some ⟨g3, 0, none⟩) u cap3, .slice (some ⟨wr.heap.size, 0, none⟩) 1 1]).run Tryz.prog (wr.alloc (.cells #[.int .u8 (x : Int)] 5)) = .ok v' w') := ap
            have MM2 : Hid (Mes w w' v' (P ++ (Gs.cnt8 c).take (3 + 1))) := by
              have e2 : P ++ (Gs.cnt8 c).take (3 + 1) = P ++ (Gs.cnt8 c).take 3 ++ [x] := by rw [← X.out, List.append_assoc]; rfl
              rw [e2]; exact MM
            clear ap MM own bel hu hu2
            go_wp2_with (at_builtin; (try rw [ex]); refine wpList_app (by rfl) (.tmp 26) (.tmp 35) (by rfl) (by rfl) (by rfl) (by rfl) AP ?_)
            go_roundw
            case rel => exact ⟨4, by omega, rfl, MM2.out⟩
            case measure => simp [intOf]
          · obtain ⟨x, X⟩ : ∃ x, Hid (c / 256 ^ 3 % 256 = x) := ⟨c / 256 ^ 3 % 256, show _ = _ from rfl⟩
            have ex : IntKind.u64.wrap ((c : Int) / 16777216) % 256 = (x : Int) := by rw [u64_wrap, ← X.out]; have := CB.out; omega
            have hx : x < 256 := by rw [← X.out]; exact Nat.mod_lt _ (by decide)
            obtain ⟨v', w', ap, MM⟩ := app_sing own bel x hx (by rw [← hu]; omega)
            rw [← hu] at ap
            have AP : Hid ((Builtin.append_ #[33, 33] 33 #[.slice (some ⟨g3, 0, none⟩) u cap3, .slice (some ⟨wr.heap.size, 0, none⟩) 1 1]).run Tryz.prog (wr.alloc (.cells #[.int .u8 (x : Int)] 5)) = .ok v' w') := ap
            have MM2 : Hid (Mes w w' v' (P ++ (Gs.cnt8 c).take (4 + 1))) := by
              have e2 : P ++ (Gs.cnt8 c).take (4 + 1) = P ++ (Gs.cnt8 c).take 4 ++ [x] := by rw [← X.out, List.append_assoc]; rfl
              rw [e2]; exact MM
            clear ap MM own bel hu hu2
            go_wp2_with (at_builtin; (try rw [ex]); refine wpList_app (by rfl) (.tmp 26) (.tmp 35) (by rfl) (by rfl) (by rfl) (by rfl) AP ?_)
            go_roundw
            case rel => exact ⟨5, by omega, rfl, MM2.out⟩
            case measure => simp [intOf]
          · obtain ⟨x, X⟩ : ∃ x, Hid (c / 256 ^ 2 % 256 = x) := ⟨c / 256 ^ 2 % 256, show _ = _ from rfl⟩
            have ex : IntKind.u64.wrap ((c : Int) / 65536) % 256 = (x : Int) := by rw [u64_wrap, ← X.out]; have := CB.out; omega
            have hx : x < 256 := by rw [← X.out]; exact Nat.mod_lt _ (by decide)
            obtain ⟨v', w', ap, MM⟩ := app_sing own bel x hx (by rw [← hu]; omega)
            rw [← hu] at ap
            have AP : Hid ((Builtin.append_ #[33, 33] 33 #[.slice (some ⟨g3, 0, none⟩) u cap3, .slice (some ⟨wr.heap.size, 0, none⟩) 1 1]).run Tryz.prog (wr.alloc (.cells #[.int .u8 (x : Int)] 5)) = .ok v' w') := ap
            have MM2 : Hid (Mes w w' v' (P ++ (Gs.cnt8 c).take (5 + 1))) := by
              have e2 : P ++ (Gs.cnt8 c).take (5 + 1) = P ++ (Gs.cnt8 c).take 5 ++ [x] := by rw [← X.out, List.append_assoc]; rfl
              rw [e2]; exact MM
            clear ap MM own bel hu hu2
            go_wp2_with (at_builtin; (try rw [ex]); refine wpList_app (by rfl) (.tmp 26) (.tmp 35) (by rfl) (by rfl) (by rfl) (by rfl) AP ?_)
            go_roundw
            case rel => exact ⟨6, by omega, rfl, MM2.out⟩
            case measure => simp [intOf]
          · obtain ⟨x, X⟩ : ∃ x, Hid (c / 256 ^ 1 % 256 = x) := ⟨c / 256 ^ 1 % 256, show _ = _ from rfl⟩
            have ex : IntKind.u64.wrap ((c : Int) / 256) % 256 = (x : Int) := by rw [u64_wrap, ← X.out]; have := CB.out; omega
            have hx : x < 256 := by rw [← X.out]; exact Nat.mod_lt _ (by decide)
            obtain ⟨v', w', ap, MM⟩ := app_sing own bel x hx (by rw [← hu]; omega)
            rw [← hu] at ap
            have AP : Hid ((Builtin.append_ #[33, 33] 33 #[.slice (some ⟨g3, 0, none⟩) u cap3, .slice (some ⟨wr.heap.size, 0, none⟩) 1 1]).run Tryz.prog (wr.alloc (.cells #[.int .u8 (x : Int)] 5)) = .ok v' w') := ap
            have MM2 : Hid (Mes w w' v' (P ++ (Gs.cnt8 c).take (6 + 1))) := by
              have e2 : P ++ (Gs.cnt8 c).take (6 + 1) = P ++ (Gs.cnt8 c).take 6 ++ [x] := by rw [← X.out, List.append_assoc]; rfl
              rw [e2]; exact MM
            clear ap MM own bel hu hu2
            go_wp2_with (at_builtin; (try rw [ex]); refine wpList_app (by rfl) (.tmp 26) (.tmp 35) (by rfl) (by rfl) (by rfl) (by rfl) AP ?_)
            go_roundw
            case rel => exact ⟨7, by omega, rfl, MM2.out⟩
            case measure => simp [intOf]
          · obtain ⟨x, X⟩ : ∃ x, Hid (c / 256 ^ 0 % 256 = x) := ⟨c / 256 ^ 0 % 256, show _ = _ from rfl⟩
            have ex : IntKind.u64.wrap (c : Int) % 256 = (x : Int) := by rw [u64_wrap, ← X.out]; have := CB.out; omega
            have hx : x < 256 := by rw [← X.out]; exact Nat.mod_lt _ (by decide)
            obtain ⟨v', w', ap, MM⟩ := app_sing own bel x hx (by rw [← hu]; omega)
            rw [← hu] at ap
            have AP : Hid ((Builtin.append_ #[33, 33] 33 #[.slice (some ⟨g3, 0, none⟩) u cap3, .slice (some ⟨wr.heap.size, 0, none⟩) 1 1]).run Tryz.prog (wr.alloc (.cells #[.int .u8 (x : Int)] 5)) = .ok v' w') := ap
            have MM2 : Hid (Mes w w' v' (P ++ (Gs.cnt8 c).take (7 + 1))) := by
              have e2 : P ++ (Gs.cnt8 c).take (7 + 1) = P ++ (Gs.cnt8 c).take 7 ++ [x] := by rw [← X.out, List.append_assoc]; rfl
              rw [e2]; exact MM
            clear ap MM own bel hu hu2
            go_wp2_with (at_builtin; (try rw [ex]); refine wpList_app (by rfl) (.tmp 26) (.tmp 35) (by rfl) (by rfl) (by rfl) (by rfl) AP ?_)
            go_roundw
            case rel => exact ⟨8, by omega, rfl, MM2.out⟩
            case measure => simp [intOf]
        · have e8 : i = 8 := by omega
          subst e8
          have e9 : P ++ (Gs.cnt8 c).take 8 = Gs.msg l := FE.out
          have FIN : Hid (Mes w wr (.slice (some ⟨g3, 0, none⟩) u cap3) (Gs.msg l)) := by
            have h9 : Mes w wr (.slice (some ⟨g3, 0, none⟩) u cap3) (P ++ (Gs.cnt8 c).take 8) := by rw [hu]; exact ⟨g3, cap3, rfl, own, bel⟩
            rw [e9] at h9
            exact h9
          clear e9
          clear own bel hu H3
          go_wp2
          go_ret
          exact ⟨_, rfl, FIN.out⟩
end Go.Proofs.YtkdgakcmhnadfaaGreatDoor

/- Re -/
/- The law ShaSums walked, the document's own Sum by a contract that is handed in: it returns true, and changes nothing that was there. -/
namespace Go.Proofs.YtkdgakcmhnadfaaGreatDoor
open Go.ChangeShapes Go.WideShapes Go.ChangeAt Go.RowKit
set_option linter.unusedVariables false
set_option linter.unusedSimpArgs false
/- what the document's Sum is to do -/
def RefSum : Prop := ∀ (w : World) (a : Option Addr) (n k : Nat) (l : List Nat), Hid (Sln w a n l) → Hid (a = none → k = 0) → Calls Tryz.prog 52 #[.slice a n k] w fun e w' => ∃ d, e = .returned (.agg (cs .u8 d)) ∧ Hid (d = Gs.sum l ∧ Below w.heap.size w w')
end Go.Proofs.YtkdgakcmhnadfaaGreatDoor
