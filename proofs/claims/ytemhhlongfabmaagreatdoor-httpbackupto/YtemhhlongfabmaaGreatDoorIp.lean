/- HttpParses: the program's Parse and the document's, side by side. -/
import Derived.Test.YtemhhlongfabmaaGreatDoorIm
import Derived.Test.YtemhhlongfabmaaGreatDoorIo
import Derived.Test.YtemhhlongfabmaaGreatDoorEm
import Derived.Test.YtemhhlongfabmaaGreatDoorHp
namespace Go.Proofs.YtemhhlongfabmaaGreatDoor
open Go.ChangeShapes Go.WideShapes Go.ChangeAt Go.RowKit
set_option maxRecDepth 20000
set_option linter.unusedVariables false
set_option linter.unusedSimpArgs false
def prM : PR → ByteArray | .got m _ _ _ _ => m | _ => ⟨#[]⟩
def prT : PR → ByteArray | .got _ t _ _ _ => t | _ => ⟨#[]⟩
def prF : PR → List Fl | .got _ _ fs _ _ => fs | _ => []
def prB : PR → List Nat | .got _ _ _ b _ => b | _ => []
def prN : PR → Nat | .got _ _ _ _ n => n | _ => 0
def prO : PR → Option Nat | .bad g => some g | _ => none
def erN : Option Nat → Int | none => 0 | some g => if g = 0 then 11 else 13
def oneE (o : Option Nat) : Prop := o = none ∨ o = some 0 ∨ o = some 12
theorem bszO_bad {o : Option ByteArray} {z g : Nat} (h : bszO o = (z, some g)) : g = 0 ∨ g = 12 := by
  unfold bszO at h
  split at h
  · cases h
  · split at h
    · split at h
      · cases h; exact .inl rfl
      · cases h
    · cases h; exact .inr rfl
theorem bsz_bad {l : List Fl} {z g : Nat} (h : bsz l = (z, some g)) : g = 0 ∨ g = 12 := by
  unfold bsz at h
  split at h
  · cases h; exact .inr rfl
  · split at h
    · cases h; exact .inr rfl
    · exact bszO_bad h
theorem rdH2_bad {m t : ByteArray} {o : Option (List Fl)} {g : Nat} (h : rdH2 m t o = .bad g) : g = 0 ∨ g = 12 := by
  cases o with
  | none => cases h; exact .inr rfl
  | some fs =>
    simp only [rdH2] at h
    split at h
    · cases h; exact .inl rfl
    · generalize hb : bsz fs = b at h
      obtain ⟨z, o'⟩ := b
      cases o' with
      | none => cases h
      | some g' => cases h; exact bsz_bad hb
theorem rdH_bad {s : ByteArray} {g : Nat} (h : rdH s = .bad g) : g = 0 ∨ g = 12 := by
  unfold rdH at h
  generalize rdF ((lns s).headD ⟨#[]⟩) = o at h
  cases o with
  | none => cases h; exact .inr rfl
  | some mt => exact rdH2_bad h
theorem prs_one (l : List Nat) : oneE (prO (prs l)) := by
  cases h : prs l with
  | wait => exact .inl rfl
  | got m t fs b n => exact .inl rfl
  | bad g =>
    have hg : g = 0 ∨ g = 12 := by
      unfold prs at h
      split at h
      · split at h
        · cases h; exact .inl rfl
        · cases h
      · generalize hr : rdH (spell (l.take (ixH (l.take 2048)).toNat)) = r at h
        cases r with
        | bad g' => cases h; exact rdH_bad hr
        | ok m t fs z =>
          simp only [prs2] at h
          split at h <;> cases h
    rcases hg with rfl | rfl
    · exact .inr (.inl rfl)
    · exact .inr (.inr rfl)
def ParseAll (w w' : World) (p : PR) (x : Value) (e : Ending) : Prop := ∃ fa fn fc ba bn bc, e = .returned (.tuple #[.agg (aggR (prM p) (prT p) (.slice fa fn fc) (.slice ba bn bc)), .int .i64 (prN p : Nat), x]) ∧ Hid (Rq w' fa fn ba bn (prF p) (prB p) ∧ Own w' w.heap.size ba bn bc (prB p) ∧ bn ≤ 1024)
theorem got_all {l : List Nat} {m t : ByteArray} {fs : List Fl} {body : List Nat} {num : Nat} {w w' : World} {fa : Option Addr} {fn fc : Nat} {ba : Option Addr} {bn bc : Nat} (h : prs l = .got m t fs body num) (h1 : Rw w' w.heap.size 41 EF fa fn fc fs) (h2 : Own w' w.heap.size ba bn bc body) : Rq w' fa fn ba bn fs body ∧ Own w' w.heap.size ba bn bc body ∧ bn ≤ 1024 := by
  obtain ⟨e, z, hG⟩ := got_of h
  obtain ⟨g1, g2, g3⟩ := hG.small
  have e1 := h1.len
  have e2 := h2.len
  exact ⟨rq_got h1 h2 (by omega) g2 (by omega), h2, by omega⟩
theorem parse_all {a : Option Addr} {n c : Nat} {l : List Nat} {w : World} {M : Nat → Prop} {E : Nat → Addr} (hS : Hid (Sln w a n l)) (hc : Hid (a = none → c = 0)) (hnc : n ≤ c) (hm : Hid (Mx w)) (hE : Hid (Sent w M E)) (M0 : M 0) (M12 : M 12) : Calls Tryz.prog 11 #[.slice a n c] w fun e w' => ParseAll w w' (prs l) (errV E (prO (prs l))) e ∧ Hid (Below w.heap.size w w') := by
  refine (parse_n hS hc hnc hm hE M0 M12).mono ?_
  rintro e w' ⟨h, hb⟩
  refine ⟨?_, hb⟩
  cases hp : prs l with
  | bad g =>
    rw [hp] at h
    exact ⟨none, 0, 0, none, 0, 0, h, Rq.zero w', Own.nil w' _, by omega⟩
  | wait =>
    rw [hp] at h
    exact ⟨none, 0, 0, none, 0, 0, h, Rq.zero w', Own.nil w' _, by omega⟩
  | got m t fs body num =>
    rw [hp] at h
    obtain ⟨fa, fn, fc, ba, bn, bc, he, h1, h2⟩ := h
    exact ⟨fa, fn, fc, ba, bn, bc, he, got_all hp h1 h2⟩
theorem refparse_all {a : Option Addr} {n c : Nat} {l : List Nat} {w : World} (hS : Hid (Sln w a n l)) (hnc : n ≤ c) : Calls Tryz.prog 12 #[.slice a n c] w fun e w' => ParseAll w w' (prs l) (.int .i64 (erN (prO (prs l)))) e ∧ Hid (Below w.heap.size w w') := by
  refine (refparse_n hS hnc).mono ?_
  rintro e w' ⟨h, hb⟩
  refine ⟨?_, hb⟩
  cases hp : prs l with
  | bad g =>
    rw [hp] at h
    exact ⟨none, 0, 0, none, 0, 0, h, Rq.zero w', Own.nil w' _, by omega⟩
  | wait =>
    rw [hp] at h
    exact ⟨none, 0, 0, none, 0, 0, h, Rq.zero w', Own.nil w' _, by omega⟩
  | got m t fs body num =>
    rw [hp] at h
    obtain ⟨fa, fn, fc, ba, bn, bc, he, h1, h2⟩ := h
    exact ⟨fa, fn, fc, ba, bn, bc, he, got_all hp h1 h2⟩
theorem num_o {o : Option Nat} {w : World} {E : Nat → Addr} (ho : oneE o) (hE : Hid (Sent w (fun g => g < 18) E)) : Calls Tryz.prog 14 #[errV E o] w fun e w' => e = .returned (.int .i64 (erN o)) ∧ Hid (Below w.heap.size w w') := by
  rcases ho with rfl | rfl | rfl
  · exact (bnum_nil w).mono fun e w' h => ⟨h.1, by rw [h.2]; exact Below.refl _ _⟩
  · exact (bnum_err 0 10 E w (by omega) rfl (by decide) hE).mono fun e w' h => h
  · exact (bnum_err 12 12 E w (by omega) rfl (by decide) hE).mono fun e w' h => h
set_option maxHeartbeats 4000000 in
theorem parses_n {a : Option Addr} {n c : Nat} {l : List Nat} {w : World} {E : Nat → Addr} (hS : Hid (Sln w a n l)) (hc : Hid (a = none → c = 0)) (hnc : n ≤ c) (hz : n ≤ 140737488351232) (hm : Hid (Mx w)) (hE : Hid (Sent w (fun g => g < 18) E)) (ht : Hid (Tab w)) :
    Calls Tryz.prog 3 #[.slice a n c] w fun e w' => e = .returned (.bool true) ∧ Hid (Below w.heap.size w w') := by
  obtain ⟨p, HP⟩ : ∃ p, Hid (prs l = p) := ⟨_, rfl⟩
  have ON : Hid (oneE (prO p)) := by rw [← HP.out]; exact prs_one l
  obtain ⟨m, Hm⟩ : ∃ q, Hid (prM p = q) := ⟨_, rfl⟩
  obtain ⟨t, Ht⟩ : ∃ q, Hid (prT p = q) := ⟨_, rfl⟩
  obtain ⟨fs, Hf⟩ : ∃ q, Hid (prF p = q) := ⟨_, rfl⟩
  obtain ⟨body, Hb⟩ : ∃ q, Hid (prB p = q) := ⟨_, rfl⟩
  obtain ⟨num, Hn⟩ : ∃ q, Hid (prN p = q) := ⟨_, rfl⟩
  obtain ⟨o, Ho⟩ : ∃ q, Hid (prO p = q) := ⟨_, rfl⟩
  obtain ⟨ex, Hex⟩ : ∃ q, Hid (errV E o = q) := ⟨_, rfl⟩
  obtain ⟨en, Hen⟩ : ∃ q, Hid (erN o = q) := ⟨_, rfl⟩
  rw [Ho.out] at ON
  have PA : Hid (∀ {a : Option Addr} {n c : Nat} {W : World}, Hid (Sln W a n l) → Hid (a = none → c = 0) → n ≤ c → Hid (Mx W) → Hid (Sent W (fun g => g < 18) E) → Calls Tryz.prog 11 #[.slice a n c] W fun e w' => (∃ fa fn fc ba bn bc, e = .returned (.tuple #[.agg #[.string m, .string t, .slice fa fn fc, .slice ba bn bc], .int .i64 (num : Nat), ex]) ∧ Hid (Rq w' fa fn ba bn fs body ∧ Own w' W.heap.size ba bn bc body ∧ bn ≤ 1024)) ∧ Hid (Below W.heap.size W w')) := fun {a n c W} h1 h2 h3 h4 h5 => by
    have := parse_all h1 h2 h3 h4 h5 (by decide) (by decide)
    rw [HP.out] at this
    unfold ParseAll at this
    rw [Hm.out, Ht.out, Hf.out, Hb.out, Hn.out, Ho.out, Hex.out] at this
    exact this
  have RA : Hid (∀ {a : Option Addr} {n c : Nat} {W : World}, Hid (Sln W a n l) → n ≤ c → Calls Tryz.prog 12 #[.slice a n c] W fun e w' => (∃ fa fn fc ba bn bc, e = .returned (.tuple #[.agg #[.string m, .string t, .slice fa fn fc, .slice ba bn bc], .int .i64 (num : Nat), .int .i64 en]) ∧ Hid (Rq w' fa fn ba bn fs body ∧ Own w' W.heap.size ba bn bc body ∧ bn ≤ 1024)) ∧ Hid (Below W.heap.size W w')) := fun {a n c W} h1 h3 => by
    have := refparse_all h1 h3
    rw [HP.out] at this
    unfold ParseAll at this
    rw [Hm.out, Ht.out, Hf.out, Hb.out, Hn.out, Ho.out, Hen.out] at this
    exact this
  have NU : Hid (∀ {W : World}, Hid (Sent W (fun g => g < 18) E) → Calls Tryz.prog 14 #[ex] W fun e w' => e = .returned (.int .i64 en) ∧ Hid (Below W.heap.size W w')) := fun {W} h => by
    have := num_o ON.out h
    rw [Hex.out, Hen.out] at this
    exact this
  clear HP Hm Ht Hf Hb Hn Ho Hex Hen ON
  go_enter Tryz.func3, Tryz.ntmps3
  go_upto_region 3 with (go_at_call 9; refine (alive_n hm hE (by decide) (by decide) ht).mono ?_; rintro e w1 ⟨rfl, D1⟩)
  have S1 : Hid (Sln w1 a n l) := hS.out.below D1.out
  have BY : Hid (Calls Tryz.prog 10 #[.slice a n c] w1 fun e w' => ∃ g N, e = .returned (.slice (some ⟨g, 0, none⟩) n N) ∧ Hid (N = n + 6 ∧ g = w1.heap.size ∧ Blk w' g (l ++ marks) ∧ Below w1.heap.size w1 w')) := bytes_n S1 hc
  go_upto_region 4 with (go_at_call 10; refine BY.out.mono ?_; rintro e w2 ⟨g, N, rfl, H2⟩)
  have D02 : Hid (Below w.heap.size w w2) := D1.out.trans (H2.out.2.2.2.mono D1.out.size)
  have HN6 : Hid (N = n + 6) := H2.out.1
  have S2 : Hid (Sln w2 (some ⟨g, 0, none⟩) n l) := blk_begin H2.out.2.2.1 hS.out.len hS.out.lt hS.out.sli.2.1
  have GW : Hid (w.heap.size ≤ g ∧ g < w2.heap.size) := ⟨by rw [H2.out.2.1]; exact D1.out.size, H2.out.2.2.1.lt⟩
  have hcN : Hid ((some (⟨g, 0, none⟩ : Addr)) = none → N = 0) := fun e => by cases e
  go_upto_region 5 with (go_at_call 11; refine (PA.out S2 hcN (by have := HN6.out; omega) (hm.out.below D02.out) (hE.out.below D02.out)).mono ?_; rintro e w3 ⟨⟨fa, fn, fc, ba, bn, bc, rfl, H3⟩, D3⟩)
  obtain ⟨q, HQ⟩ : ∃ q, Hid (w3.heap.size = q) := ⟨_, rfl⟩
  obtain ⟨w4, H4⟩ : ∃ x, Hid (w3.alloc (.cells #[.string m, .string t, .slice fa fn fc, .slice ba bn bc] 27) = x) := ⟨_, rfl⟩
  rw [H4.out, HQ.out]
  have D03 : Hid (Below w.heap.size w w3) := D02.out.trans (D3.out.mono D02.out.size)
  have B4 : Hid (Bx w w4 q 27 #[.string m, .string t, .slice fa fn fc, .slice ba bn bc]) := by rw [← H4.out, ← HQ.out]; exact Bx.new w w3 27 _ D03.out
  have D34 : Hid (Below w3.heap.size w3 w4) := by rw [← H4.out]; exact alloc1 _ _
  have Q4 : Hid (Rq w4 fa fn ba bn fs body) := H3.out.1.below D34.out
  have O4 : Hid (Own w4 w2.heap.size ba bn bc body) := H3.out.2.1.block (fun k hk => D34.out.block k (H3.out.2.1.ge k hk).2)
  have K4 : Hid (Blk w4 g (l ++ marks)) := (H2.out.2.2.1.below D3.out H2.out.2.2.1.lt).below D34.out (by have := GW.out; have := D3.out.size; omega)
  have S4 : Hid (Sln w4 a n l) := hS.out.below B4.out.bel
  clear H4
  go_upto_region 6 with (go_at_call 12; refine (RA.out S4 hnc).mono ?_; rintro e w5 ⟨⟨fa2, fn2, fc2, ba2, bn2, bc2, rfl, H5⟩, D5⟩)
  obtain ⟨r, HR⟩ : ∃ q, Hid (w5.heap.size = q) := ⟨_, rfl⟩
  obtain ⟨w6, H6⟩ : ∃ x, Hid (w5.alloc (.cells #[.string m, .string t, .slice fa2 fn2 fc2, .slice ba2 bn2 bc2] 27) = x) := ⟨_, rfl⟩
  rw [H6.out, HR.out]
  have D56 : Hid (Below w5.heap.size w5 w6) := by rw [← H6.out]; exact alloc1 _ _
  have D46 : Hid (Below w4.heap.size w4 w6) := D5.out.trans (D56.out.mono D5.out.size)
  have D05 : Hid (Below w.heap.size w w5) := B4.out.bel.trans (D5.out.mono B4.out.bel.size)
  have B6 : Hid (Bx w w6 q 27 #[.string m, .string t, .slice fa fn fc, .slice ba bn bc]) := B4.out.below D46.out
  have C6 : Hid (Bx w w6 r 27 #[.string m, .string t, .slice fa2 fn2 fc2, .slice ba2 bn2 bc2]) := by rw [← H6.out, ← HR.out]; exact Bx.new w w5 27 _ D05.out
  have Q6 : Hid (Rq w6 fa fn ba bn fs body) := Q4.out.below D46.out
  have U6 : Hid (Rq w6 fa2 fn2 ba2 bn2 fs body) := H5.out.1.below D56.out
  have O6 : Hid (Own w6 w2.heap.size ba bn bc body) := O4.out.block (fun k hk => D46.out.block k (O4.out.ge k hk).2)
  have K6 : Hid (Blk w6 g (l ++ marks)) := K4.out.below D46.out K4.out.lt
  have SM := same_n (m := m) (t := t) (m' := m) (t' := t) (fc := fc) (fc' := fc2) (bc := bc) (bc' := bc2) Q6 U6
  rw [samR_self] at SM
  have SM2 : Hid (Calls Tryz.prog 13 #[.agg #[.string m, .string t, .slice fa fn fc, .slice ba bn bc], .agg #[.string m, .string t, .slice fa2 fn2 fc2, .slice ba2 bn2 bc2]] w6 fun e w' => e = .returned (.bool true) ∧ Hid (Below w6.heap.size w6 w')) := SM
  clear SM H6
  obtain ⟨p0, p1, p2, p3⟩ := box4 B6.out.row
  obtain ⟨s0, s1, s2, s3⟩ := box4 C6.out.row
  have nn : ((num : Int) == (num : Int)) = true := beq_self_eq_true _
  have ee : (en == en) = true := beq_self_eq_true _
  have NB : Hid (∀ k, blkOf ba = some k → w2.heap.size ≤ k) := fun k hk => (O6.out.ge k hk).1
  have NE : Hid (blkOf ba ≠ some g) := fun e => by have h1 := NB.out g e; have h2 := GW.out.2; omega
  go_wp2_with (first
    | (go_at_call 13; refine SM2.out.mono ?_; rintro e w7 ⟨rfl, D7⟩
       have B7 := box4 (B6.out.below D7.out).row
       obtain ⟨p0, p1, p2, p3⟩ := B7
       have E7 : Hid (Sent w7 (fun g => g < 18) E) := hE.out.below (B6.out.bel.trans (D7.out.mono B6.out.bel.size)))
    | (go_at_call 14; refine (NU.out E7).mono ?_; rintro e w8 ⟨rfl, D8⟩
       have D68 : Hid (Below w6.heap.size w6 w8) := D7.out.trans (D8.out.mono D7.out.size)
       have B8 : Hid (Bx w w8 q 27 #[.string m, .string t, .slice fa fn fc, .slice ba bn bc]) := B6.out.below D68.out
       obtain ⟨p0, p1, p2, p3⟩ := box4 B8.out.row
       have K8 : Hid (Blk w8 g (l ++ marks)) := K6.out.below D68.out K6.out.lt
       have S8 : Hid (Sln w8 a n l) := hS.out.below B8.out.bel
       have O8 : Hid (Own w8 w2.heap.size ba bn bc body) := O6.out.block (fun k hk => D68.out.block k (O6.out.ge k hk).2)
       have KC : Hid (Calls Tryz.prog 15 #[.slice (some ⟨g, 0, none⟩) n N, .slice a n c] w8 fun e w' => e = .returned (.bool true) ∧ Hid (∃ n, w' = w8.drewN n)) := kept_n K8 HN6 S8
       clear E7)
    | (go_at_call 15; refine KC.out.mono ?_; rintro e w9 ⟨rfl, H9⟩
       have D9 : Hid (Below w8.heap.size w8 w9) := by obtain ⟨k, hk⟩ := H9.out; rw [hk]; exact below_drewN (Below.refl _ _) k
       have B9 : Hid (Bx w w9 q 27 #[.string m, .string t, .slice fa fn fc, .slice ba bn bc]) := B8.out.below D9.out
       obtain ⟨p0, p1, p2, p3⟩ := box4 B9.out.row
       have K9 : Hid (Blk w9 g (l ++ marks)) := K8.out.below D9.out K8.out.lt
       have S9 : Hid (Sln w9 (some ⟨g, 0, none⟩) n l) := blk_begin K9.out hS.out.len hS.out.lt hS.out.sli.2.1
       have O9 : Hid (Own w9 w2.heap.size ba bn bc body) := O8.out.block (fun k hk => D9.out.block k (O8.out.ge k hk).2)
       have AP : Hid (Calls Tryz.prog 16 #[.slice (some ⟨g, 0, none⟩) n N, .slice ba bn bc] w9 fun e w' => e = .returned (.bool true) ∧ Hid (w9.grownBy w' (blkOf ba))) := apart_own S9 O9 (show Hid _ from (by have h1 := O9.out; have h2 := B9.out.bel.size; exact Nat.le_trans (Nat.le_trans D3.out.size D34.out.size) (Nat.le_trans D46.out.size (Nat.le_trans D68.out.size D9.out.size)))) (by have := H3.out.2.2; omega) (fun k off _ e => by cases e; exact NE.out)
       clear KC)
    | (go_at_call 16; refine AP.out.mono ?_; rintro e wa ⟨rfl, GR⟩
       have BA : Hid (Below w.heap.size w wa) := B9.out.bel.grown GR.out B9.out.bel.size (fun k e => Nat.le_trans D02.out.size (NB.out k e))
       have KA : Hid (Blk wa g (l ++ marks)) := (GR.out.block g K9.out.lt (fun e => NE.out e.symm)).trans K9.out
       have SA : Hid (Sln wa a n l) := hS.out.below BA.out
       have KC : Hid (Calls Tryz.prog 15 #[.slice (some ⟨g, 0, none⟩) n N, .slice a n c] wa fun e w' => e = .returned (.bool true) ∧ Hid (∃ n, w' = wa.drewN n)) := kept_n KA HN6 SA
       clear AP)
    | (go_at_call 15; refine KC.out.mono ?_; rintro e wb ⟨rfl, HB⟩
       have DB : Hid (Below w.heap.size w wb) := by obtain ⟨k, hk⟩ := HB.out; rw [hk]; exact below_drewN BA.out k))
  go_ret
  exact ⟨rfl, DB.out⟩
end Go.Proofs.YtemhhlongfabmaaGreatDoor
