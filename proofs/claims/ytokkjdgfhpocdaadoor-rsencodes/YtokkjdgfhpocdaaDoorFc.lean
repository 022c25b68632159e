/- What the Go function RsEncodes does where the numbers are right: it returns true, and changes nothing that was there. -/
import Derived.Test.YtokkjdgfhpocdaaDoorFb
import Derived.Deep.RegionHeld
namespace Go.Proofs.YtokkjdgfhpocdaaDoor
open Go.ChangeShapes Go.WideShapes Go.ChangeAt Go.RowKit
set_option linter.unusedVariables false
set_option linter.unusedSimpArgs false
theorem Kp.drewN {w0 w : World} {g s N gi n : Nat} {bs data : List Nat} {a : Option Addr} (h : Kp w0 w g s N gi n bs data a) (q : Nat) : Kp w0 (w.drewN q) g s N gi n bs data a :=
  ⟨h.rb.below (below_drewN (Below.refl _ _) q), h.inb, h.sl.drewN q, h.new, below_drewN h.bel q⟩
set_option maxRecDepth 40000 in
set_option maxHeartbeats 4000000 in
theorem encodes_ok (k m n c : Nat) (a : Option Addr) (data : List Nat) (w : World) (h1 : 1 ≤ m) (h2 : m ≤ k) (h3 : k + m ≤ 16) (hn : n ≤ 1024) (S : Hid (Sln w a n data)) (hk0 : Hid (a = none → c = 0)) :
    Calls Tryd.prog 4 #[.int .i64 (k : Int), .int .i64 (m : Int), .slice a n c] w fun e w' => e = .returned (.bool true) ∧ Hid (Below w.heap.size w w') := by
  have hs := sz_le k n (by omega) (by omega) hn
  obtain ⟨s, Hs⟩ : ∃ s, Hid (sz k n = s) := ⟨_, rfl⟩
  rw [Hs.out] at hs
  have HDL : Hid (sz k data.length = s) := by rw [← S.out.len]; exact Hs.out
  have LS : Hid ((shards k m data).length = k + m) := (by simp [shards] : (shards k m data).length = k + m)
  go_enter Tryd.func4, Tryd.ntmps4
  go_upto_region 8 with (first | (go_at_call 9; refine (alive_any _).mono ?_; rintro e w1 ⟨rfl, H1⟩; have S1 : Hid (Sln w1 a n data) := S.out.below H1.out) | (go_at_call 15; refine (bytes_n S1 hk0).mono ?_; rintro e w2 ⟨gi, N, rfl, H2⟩; have hN := H2.out.1; have hN1 : n ≤ N := (by omega); have hN2 : N ≤ 140737488351232 := (by omega); have HN : Hid (N = n + 6) := hN; clear hN; have SI : Hid (Sln w2 (some ⟨gi, 0, none⟩) n data) := blk_begin H2.out.2.2.1 S1.out.len S1.out.lt S1.out.sli.2.1; have S2 : Hid (Sln w2 a n data) := S1.out.below H2.out.2.2.2) | (go_at_call 16; refine (encode_ok k m n N (some ⟨gi, 0, none⟩) data _ h1 h2 h3 hn SI hN1 hN2).mono ?_; rintro e w3 ⟨g, bs, cap, rfl, H3⟩; have S3 : Hid (Sln w3 a n data) := S2.out.below H3.out.bel) | (go_at_call 17; refine (refencode_ok k m n c a data _ h1 h2 h3 hn S3).mono ?_; rintro e w4 ⟨g', bs', cap', rfl, H4⟩; have L4 : Hid (Lst w4 g s (shards k m data)) := (by have h := (own_lst H3.out.own H3.out.shs).below H4.out.bel; rw [HDL.out] at h; exact h); have M4 : Hid (Lst w4 g' s (shards k m data)) := (by have h := own_lst H4.out.own H4.out.shs; rw [HDL.out] at h; exact h); have K4 : Hid (Kp w1 w4 g s (k + m) gi n bs data a) := (by
      have z1 := H2.out.2.2.2.size
      have hrb := (enc_rb H3.out).below H4.out.bel
      rw [HDL.out] at hrb
      have b2 : Below w1.heap.size w1 w3 := H2.out.2.2.2.trans (H3.out.bel.mono z1)
      have gilt := H2.out.2.2.1.lt
      refine ⟨hrb, (H2.out.2.2.1.below H3.out.bel gilt).below H4.out.bel (Nat.lt_of_lt_of_le gilt H3.out.bel.size), S3.out.below H4.out.bel, fun t ht => ?_, b2.trans (H4.out.bel.mono b2.size)⟩
      have hm : bs.getD t 0 ∈ bs := by
        have hl := H3.out.shs.len
        have hl2 := LS.out
        have ht2 : t < bs.length := by omega
        have e : bs.getD t 0 = bs[t] := by simp [List.getD, ht2]
        rw [e]; exact List.getElem_mem ht2
      have h9 := H3.out.new _ hm
      exact ⟨by omega, by omega⟩)) | (go_at_call 14; refine (num_nil _).mono ?_; rintro e w0 ⟨rfl, h0⟩; rw [h0]; clear h0) | (go_at_call 18; refine (sameLists_n g g' cap cap' s (k + m) (shards k m data) _ (by omega) (by omega) LS L4 M4).mono ?_; rintro e w5 ⟨rfl, hQ⟩; have K5 : Hid (Kp w1 w5 g s (k + m) gi n bs data a) := (by obtain ⟨q, rfl⟩ := hQ.out; exact K4.out.drewN q)) | (go_at_call 19; refine (kept_n K5.out.inb HN K5.out.sl).mono ?_; rintro e w6 ⟨rfl, hQ6⟩; have K6 : Hid (Kp w1 w6 g s (k + m) gi n bs data a) := (by obtain ⟨q, rfl⟩ := hQ6.out; exact K5.out.drewN q)))
  have B1 : Hid (Below w.heap.size w w1) := H1.out
  clear H1 H2 H3 H4 K4 K5 hQ hQ6 L4 M4 S S2 S3 SI LS HDL Hs
  go_wp2
  go_loopw [12] (fun ti wx => ∃ i : Nat, 1 ≤ i ∧ i ≤ k + m ∧ ti = .int .i64 (i : Int) ∧ Hid (Kp w1 wx g s (k + m) gi n bs data a)) (fun ti _ => k + m - (intOf ti).toNat)
  case atStart => exact ⟨1, by omega, by omega, rfl, K6.out⟩
  case round =>
    obtain ⟨i, hi1, hi, rfl, KJ⟩ := hrel
    clear K6
    by_cases hlt : i < k + m
    · have i1 : (i : Int) < (k : Int) + (m : Int) := by omega
      have i2 : (i : Int) < ((k + m : Nat) : Int) := by omega
      obtain ⟨j, Hj⟩ : ∃ j, Hid (i = j + 1) := ⟨i - 1, (by omega : i = i - 1 + 1)⟩
      have i3 : (j : Int) < ((k + m : Nat) : Int) := by have := Hj.out; omega
      have i4 : (j : Int) < (k : Int) + (m : Int) := by have := Hj.out; omega
      have hne2 : i ≠ j := by have := Hj.out; omega
      obtain ⟨b1, Hb1⟩ : ∃ b, Hid (bs.getD i 0 = b) := ⟨_, rfl⟩
      obtain ⟨b0, Hb0⟩ : ∃ b, Hid (bs.getD j 0 = b) := ⟨_, rfl⟩
      have hj0 : j < k + m := by omega
      have CL : Hid (∀ wx, Kp w1 wx g s (k + m) gi n bs data a → wx.cell? ⟨g, i, none⟩ = some (.slice (some ⟨b1, 0, none⟩) s s) ∧ wx.cell? ⟨g, j, none⟩ = some (.slice (some ⟨b0, 0, none⟩) s s)) := by
        intro wx hK
        have e1 := hK.rb.c i hlt
        have e0 := hK.rb.c j hj0
        rw [Hb1.out] at e1
        rw [Hb0.out] at e0
        exact ⟨e1, e0⟩
      have AP1 : Hid (∀ wx, Kp w1 wx g s (k + m) gi n bs data a → Calls Tryd.prog 20 #[.slice (some ⟨b1, 0, none⟩) s s, .slice (some ⟨b0, 0, none⟩) s s] wx fun e w' => e = .returned (.bool true) ∧ Hid (Kp w1 w' g s (k + m) gi n bs data a)) := by
        intro wx hK
        obtain ⟨La, hBa, hla, hba⟩ := hK.rb.blk i hlt
        obtain ⟨Lb, hBb, hlb, hbb⟩ := hK.rb.blk j hj0
        have hne := hK.rb.ne i j hlt hj0 hne2
        rw [Hb1.out] at hBa hne
        rw [Hb0.out] at hBb hne
        refine (apart_n (La := La) (Lb := Lb) ⟨hla.symm, hBa.sli hba (by omega)⟩ hBb hbb hlb.symm (by omega) hne).mono ?_
        rintro e w' ⟨rfl, T⟩
        exact ⟨rfl, hK.turned S1.out hj0 (by rw [Hb0.out]; exact T.out)⟩
      have AP2 : Hid (∀ wx, Kp w1 wx g s (k + m) gi n bs data a → Calls Tryd.prog 20 #[.slice (some ⟨gi, 0, none⟩) n N, .slice (some ⟨b0, 0, none⟩) s s] wx fun e w' => e = .returned (.bool true) ∧ Hid (Kp w1 w' g s (k + m) gi n bs data a)) := by
        intro wx hK
        obtain ⟨Lb, hBb, hlb, hbb⟩ := hK.rb.blk j hj0
        have hne := (hK.new j hj0).2
        rw [Hb0.out] at hBb hne
        refine (apart_n (La := data) (Lb := Lb) (blk_begin hK.inb S1.out.len S1.out.lt S1.out.sli.2.1) hBb hbb hlb.symm (by omega) hne).mono ?_
        rintro e w' ⟨rfl, T⟩
        exact ⟨rfl, hK.turned S1.out hj0 (by rw [Hb0.out]; exact T.out)⟩
      have q3 : IntKind.i64.wrap ((i : Int) - 1) = (j : Int) := by have := Hj.out; rw [IntKind.wrap_i64]; omega
      clear hne2
      go_wp2
      refine wp_region_held (S := fun w' => w'.cell? ⟨g, i, none⟩ = some (.slice (some ⟨b1, 0, none⟩) s s) ∧ w'.cell? ⟨g, j, none⟩ = some (.slice (some ⟨b0, 0, none⟩) s s)) (by kernel_rfl) ?_
      obtain ⟨w2, hw2⟩ : ∃ w2, w2 = wr.drewN 1 := ⟨_, rfl⟩
      have K2 : Hid (Kp w1 w2 g s (k + m) gi n bs data a) := by rw [hw2]; exact KJ.out.drewN 1
      have hw3 : ({ heap := wr.heap, tape := wr.tape, drawn := wr.drawn + 1, os := wr.os, output := wr.output } : World) = w2 := hw2.symm
      refine (show _ = w2 from hw3) ▸ ?_
      clear hw2 hw3 KJ
      have hS0 : w2.cell? ⟨g, i, none⟩ = some (.slice (some ⟨b1, 0, none⟩) s s) ∧ w2.cell? ⟨g, j, none⟩ = some (.slice (some ⟨b0, 0, none⟩) s s) := CL.out w2 K2.out
      refine wpAnyH_take (i := 0) (v := .slice (some ⟨g, 0, none⟩) (k + m) cap) rfl (by kernel_rfl) (by kernel_rfl) (by kernel_rfl) (fun _ _ _ h => h) (Or.inl ⟨by rfl, fun w hSw => by (try dsimp only at hSw); go_simp⟩) (by assumption) ?_
      simp only [List.getElem_toArray, List.getElem_cons_zero, List.getElem_cons_succ, Act.put, List.setIfInBounds_toArray, List.set_cons_zero, List.set_cons_succ]
      refine wpAnyH_take (i := 1) (v := .int .i64 (i : Int)) rfl (by kernel_rfl) (by kernel_rfl) (by kernel_rfl) (fun _ _ _ h => h) (Or.inl ⟨by rfl, fun w hSw => by (try dsimp only at hSw); go_simp⟩) (by assumption) ?_
      simp only [List.getElem_toArray, List.getElem_cons_zero, List.getElem_cons_succ, Act.put, List.setIfInBounds_toArray, List.set_cons_zero, List.set_cons_succ]
      refine wpAnyH_take (i := 2) (v := .pointer (some ⟨g, i, none⟩)) rfl (by kernel_rfl) (by kernel_rfl) (by kernel_rfl) (fun _ _ _ h => h) (Or.inl ⟨by rfl, fun w hSw => by (try dsimp only at hSw); go_simp⟩) (by assumption) ?_
      simp only [List.getElem_toArray, List.getElem_cons_zero, List.getElem_cons_succ, Act.put, List.setIfInBounds_toArray, List.set_cons_zero, List.set_cons_succ]
      refine wpAnyH_take (i := 3) (v := .slice (some ⟨b1, 0, none⟩) s s) rfl (by kernel_rfl) (by kernel_rfl) (by kernel_rfl) (fun _ _ _ h => h) (Or.inl ⟨by rfl, fun w hSw => by (try dsimp only at hSw); go_simp⟩) (by assumption) ?_
      simp only [List.getElem_toArray, List.getElem_cons_zero, List.getElem_cons_succ, Act.put, List.setIfInBounds_toArray, List.set_cons_zero, List.set_cons_succ]
      refine wpAnyH_take (i := 4) (v := .slice (some ⟨g, 0, none⟩) (k + m) cap) rfl (by kernel_rfl) (by kernel_rfl) (by kernel_rfl) (fun _ _ _ h => h) (Or.inl ⟨by rfl, fun w hSw => by (try dsimp only at hSw); go_simp⟩) (by assumption) ?_
      simp only [List.getElem_toArray, List.getElem_cons_zero, List.getElem_cons_succ, Act.put, List.setIfInBounds_toArray, List.set_cons_zero, List.set_cons_succ]
      refine wpAnyH_take (i := 5) (v := .int .i64 (i : Int)) rfl (by kernel_rfl) (by kernel_rfl) (by kernel_rfl) (fun _ _ _ h => h) (Or.inl ⟨by rfl, fun w hSw => by (try dsimp only at hSw); go_simp⟩) (by assumption) ?_
      simp only [List.getElem_toArray, List.getElem_cons_zero, List.getElem_cons_succ, Act.put, List.setIfInBounds_toArray, List.set_cons_zero, List.set_cons_succ]
      refine wpAnyH_take (i := 6) (v := .int .i64 (j : Int)) rfl (by kernel_rfl) (by kernel_rfl) (by kernel_rfl) (fun _ _ _ h => h) (Or.inl ⟨by rfl, fun w hSw => by (try dsimp only at hSw); go_simp⟩) (by assumption) ?_
      simp only [List.getElem_toArray, List.getElem_cons_zero, List.getElem_cons_succ, Act.put, List.setIfInBounds_toArray, List.set_cons_zero, List.set_cons_succ]
      refine wpAnyH_take (i := 7) (v := .pointer (some ⟨g, j, none⟩)) rfl (by kernel_rfl) (by kernel_rfl) (by kernel_rfl) (fun _ _ _ h => h) (Or.inl ⟨by rfl, fun w hSw => by (try dsimp only at hSw); go_simp⟩) (by assumption) ?_
      simp only [List.getElem_toArray, List.getElem_cons_zero, List.getElem_cons_succ, Act.put, List.setIfInBounds_toArray, List.set_cons_zero, List.set_cons_succ]
      refine wpAnyH_take (i := 8) (v := .slice (some ⟨b0, 0, none⟩) s s) rfl (by kernel_rfl) (by kernel_rfl) (by kernel_rfl) (fun _ _ _ h => h) (Or.inl ⟨by rfl, fun w hSw => by (try dsimp only at hSw); go_simp⟩) (by assumption) ?_
      simp only [List.getElem_toArray, List.getElem_cons_zero, List.getElem_cons_succ, Act.put, List.setIfInBounds_toArray, List.set_cons_zero, List.set_cons_succ]
      refine wpAnyH_ready (rs := [9]) (by kernel_rfl) (by simp) (AllReadyH.cons rfl (fun K hK => ?_) AllReadyH.nil)
      simp only [List.getElem_toArray, List.getElem_cons_zero, List.getElem_cons_succ]
      rw [if_pos (by rfl)]
      go_simp
      go_wp2_with (go_at_call 20; refine (AP1.out _ K2.out).mono ?_; rintro e w7 ⟨rfl, K7⟩)
      refine hK.out _ _ (CL.out w7 K7.out) (fun hS_ => ?_)
      clear hK K hS0
      refine wpAnyH_take (i := 10) (v := .bool false) rfl (by kernel_rfl) (by kernel_rfl) (by kernel_rfl) (fun _ _ _ h => h) (Or.inl ⟨by rfl, fun w hSw => by (try dsimp only at hSw); go_simp⟩) (by assumption) ?_
      simp only [List.getElem_toArray, List.getElem_cons_zero, List.getElem_cons_succ, Act.put, List.setIfInBounds_toArray, List.set_cons_zero, List.set_cons_succ]
      refine wpAnyH_take (i := 11) (v := .bool false) rfl (by kernel_rfl) (by kernel_rfl) (by kernel_rfl) (fun _ _ _ h => h) (Or.inl ⟨by rfl, fun w hSw => by (try dsimp only at hSw); go_simp⟩) (by assumption) ?_
      simp only [List.getElem_toArray, List.getElem_cons_zero, List.getElem_cons_succ, Act.put, List.setIfInBounds_toArray, List.set_cons_zero, List.set_cons_succ]
      refine wpAnyH_take (i := 12) (v := .slice (some ⟨gi, 0, none⟩) n N) rfl (by kernel_rfl) (by kernel_rfl) (by kernel_rfl) (fun _ _ _ h => h) (Or.inl ⟨by rfl, fun w hSw => by (try dsimp only at hSw); go_simp⟩) (by assumption) ?_
      simp only [List.getElem_toArray, List.getElem_cons_zero, List.getElem_cons_succ, Act.put, List.setIfInBounds_toArray, List.set_cons_zero, List.set_cons_succ]
      refine wpAnyH_take (i := 13) (v := .slice (some ⟨g, 0, none⟩) (k + m) cap) rfl (by kernel_rfl) (by kernel_rfl) (by kernel_rfl) (fun _ _ _ h => h) (Or.inl ⟨by rfl, fun w hSw => by (try dsimp only at hSw); go_simp⟩) (by assumption) ?_
      simp only [List.getElem_toArray, List.getElem_cons_zero, List.getElem_cons_succ, Act.put, List.setIfInBounds_toArray, List.set_cons_zero, List.set_cons_succ]
      refine wpAnyH_take (i := 14) (v := .int .i64 (i : Int)) rfl (by kernel_rfl) (by kernel_rfl) (by kernel_rfl) (fun _ _ _ h => h) (Or.inl ⟨by rfl, fun w hSw => by (try dsimp only at hSw); go_simp⟩) (by assumption) ?_
      simp only [List.getElem_toArray, List.getElem_cons_zero, List.getElem_cons_succ, Act.put, List.setIfInBounds_toArray, List.set_cons_zero, List.set_cons_succ]
      refine wpAnyH_take (i := 15) (v := .int .i64 (j : Int)) rfl (by kernel_rfl) (by kernel_rfl) (by kernel_rfl) (fun _ _ _ h => h) (Or.inl ⟨by rfl, fun w hSw => by (try dsimp only at hSw); go_simp⟩) (by assumption) ?_
      simp only [List.getElem_toArray, List.getElem_cons_zero, List.getElem_cons_succ, Act.put, List.setIfInBounds_toArray, List.set_cons_zero, List.set_cons_succ]
      refine wpAnyH_take (i := 16) (v := .pointer (some ⟨g, j, none⟩)) rfl (by kernel_rfl) (by kernel_rfl) (by kernel_rfl) (fun _ _ _ h => h) (Or.inl ⟨by rfl, fun w hSw => by (try dsimp only at hSw); go_simp⟩) (by assumption) ?_
      simp only [List.getElem_toArray, List.getElem_cons_zero, List.getElem_cons_succ, Act.put, List.setIfInBounds_toArray, List.set_cons_zero, List.set_cons_succ]
      refine wpAnyH_take (i := 17) (v := .slice (some ⟨b0, 0, none⟩) s s) rfl (by kernel_rfl) (by kernel_rfl) (by kernel_rfl) (fun _ _ _ h => h) (Or.inl ⟨by rfl, fun w hSw => by (try dsimp only at hSw); go_simp⟩) (by assumption) ?_
      simp only [List.getElem_toArray, List.getElem_cons_zero, List.getElem_cons_succ, Act.put, List.setIfInBounds_toArray, List.set_cons_zero, List.set_cons_succ]
      refine wpAnyH_ready (rs := [18]) (by kernel_rfl) (by simp) (AllReadyH.cons rfl (fun K hK => ?_) AllReadyH.nil)
      simp only [List.getElem_toArray, List.getElem_cons_zero, List.getElem_cons_succ]
      rw [if_pos (by rfl)]
      go_simp
      go_wp2_with (go_at_call 20; refine (AP2.out _ K7.out).mono ?_; rintro e w8 ⟨rfl, K8⟩)
      refine hK.out _ _ (CL.out w8 K8.out) (fun hS_ => ?_)
      clear hK K
      refine wpAnyH_take (i := 19) (v := .bool false) rfl (by kernel_rfl) (by kernel_rfl) (by kernel_rfl) (fun _ _ _ h => h) (Or.inl ⟨by rfl, fun w hSw => by (try dsimp only at hSw); go_simp⟩) (by assumption) ?_
      simp only [List.getElem_toArray, List.getElem_cons_zero, List.getElem_cons_succ, Act.put, List.setIfInBounds_toArray, List.set_cons_zero, List.set_cons_succ]
      refine wpAnyH_take (i := 20) (v := .bool false) rfl (by kernel_rfl) (by kernel_rfl) (by kernel_rfl) (fun _ _ _ h => h) (Or.inl ⟨by rfl, fun w hSw => by (try dsimp only at hSw); go_simp⟩) (by assumption) ?_
      simp only [List.getElem_toArray, List.getElem_cons_zero, List.getElem_cons_succ, Act.put, List.setIfInBounds_toArray, List.set_cons_zero, List.set_cons_succ]
      refine wpAnyH_done (by kernel_rfl) ?_ _
      clear hS_
      go_wp2
      go_roundw
      case rel => exact ⟨i + 1, by omega, by omega, by go_num, K8.out⟩
      case measure => simp [intOf]; omega
    · have e : i = k + m := by omega
      have i1 : ¬ ((i : Int) < (k : Int) + (m : Int)) := by omega
      have i2 : ¬ ((i : Int) < ((k + m : Nat) : Int)) := by omega
      go_wp2_with (go_at_call 19; refine (kept_n KJ.out.inb HN KJ.out.sl).mono ?_; rintro e w6 ⟨rfl, hQ6⟩)
      go_ret
      obtain ⟨q, rfl⟩ := hQ6.out
      exact ⟨rfl, below_drewN (B1.out.trans (KJ.out.bel.mono B1.out.size)) q⟩
end Go.Proofs.YtokkjdgfhpocdaaDoor
