/- What the Go function RsAny does, for all numbers and lists: it returns true, and changes nothing that was there. -/
import Derived.Test.YtokkjdgfhpocdaaDoorGa
import Derived.Deep.CutBlock
namespace Go.Proofs.YtokkjdgfhpocdaaDoor
open Go.ChangeShapes Go.WideShapes Go.ChangeAt Go.RowKit
set_option linter.unusedVariables false
set_option linter.unusedSimpArgs false
set_option linter.unnecessarySimpa false
set_option maxRecDepth 40000 in
set_option maxHeartbeats 4000000 in
theorem any_legal (k m nA kA nB kB nP kP : Nat) (aA aB aP : Option Addr) (lA : List Nat) (w : World) (h1 : 1 ≤ m) (h2 : m ≤ k) (h3 : k + m ≤ 16) (hn : nA ≤ 1024) (A : Hid (Sln w aA nA lA)) (hA : nA ≤ kA) (mA : kA ≤ 140737488351232) (hP : Hid (Pks w aP nP)) (mP : nP ≤ 9223372036854775807) :
    Calls Tryd.prog 6 #[.agg #[.int .i64 (k : Int), .int .i64 (m : Int), .slice aA nA kA, .slice aB nB kB, .slice aP nP kP]] w fun e w' => e = .returned (.bool true) ∧ Hid (Below w.heap.size w w') := by
  go_enter Tryd.func6, Tryd.ntmps6
  go_upto_region 3 with (go_at_call 9; refine (alive_any _).mono ?_; rintro e w1 ⟨rfl, H1⟩)
  have HX : Hid (Bx w1 w.heap.size (.int .i64 (k : Int)) (.int .i64 (m : Int)) (.slice aA nA kA) (.slice aB nB kB) (.slice aP nP kP)) := (Bx.new w _ _ _ _ _ _).below H1.out
  have HBL : Hid (Below w.heap.size w w1) := ((Below.refl w.heap.size w).alloc (Nat.le_refl _) _).trans (H1.out.mono (by simp))
  clear H1
  obtain ⟨p, Hp⟩ : ∃ p, Hid (w.heap.size = p) := ⟨_, rfl⟩
  rw [Hp.out] at HX ⊢
  have c0 := HX.out.c0
  have c1 := HX.out.c1
  have c2 := HX.out.c2
  have A1 : Hid (Sln w1 aA nA lA) := A.out.below HBL.out
  have P1 : Hid (Pks w1 aP nP) := hP.out.below HBL.out
  have hn2 : (nA : Int) ≤ 1024 := by omega
  clear A hP
  go_upto_region 7 with (first | (go_at_call 11; refine (legal_t k m h1 h2 h3 _).mono ?_; rintro e w0 ⟨rfl, h0⟩; rw [h0]; clear h0) | (go_at_call 16; refine (encode_ok k m nA kA aA lA _ h1 h2 h3 hn A1 hA mA).mono ?_; rintro e w3 ⟨g1, bs, cap1, rfl, H3⟩; have X3 : Hid (Bx w3 p (.int .i64 (k : Int)) (.int .i64 (m : Int)) (.slice aA nA kA) (.slice aB nB kB) (.slice aP nP kP)) := HX.out.below ((Below.refl _ _).trans (H3.out.bel.mono (Nat.le_refl _))); have d0 := X3.out.c0; have d1 := X3.out.c1; have d2 := X3.out.c2; have d4 := X3.out.c4))
  obtain ⟨s, Hs⟩ : ∃ s, Hid (s = sz k lA.length) := ⟨_, rfl⟩
  have hs : s ≤ 1100 := by
    have h := sz_le k nA (by omega) (by omega) hn
    rw [Hs.out, ← A1.out.len]
    omega
  have CL : Hid (∀ t, t < k + m → w3.cell? ⟨g1, t, none⟩ = some (sv s (bs.getD t 0))) := fun t ht => enc_cell H3.out Hs.out t ht
  have SH : Hid (Shs w3 bs s (shards k m lA)) := by rw [Hs.out]; exact H3.out.shs
  have BL3 : Hid (Below w.heap.size w w3) := HBL.out.trans (H3.out.bel.mono HBL.out.size)
  have A3 : Hid (Sln w3 aA nA lA) := A1.out.below H3.out.bel
  have P3 : Hid (Pks w3 aP nP) := P1.out.below H3.out.bel
  clear H3 HX HBL A1 P1 c0 c1 c2
  go_wp2
  have ST : Hid (Own (w3.alloc (.cells #[] 54)) w3.heap.size w3.heap.size 0 s 0 bs ∧ Below w3.heap.size w3 (w3.alloc (.cells #[] 54))) := ⟨Own.new _ _ _ _ (Nat.le_refl _), (Below.refl _ _).alloc (Nat.le_refl _) _⟩
  clear d0 d1 d2 d4
  go_loopw [55, 6] (fun ti tv wr => ∃ i g cap : Nat, i ≤ k + m ∧ ti = .int .i64 (i : Int) ∧ tv = .slice (some ⟨g, 0, none⟩) i cap ∧ Hid (Own wr w3.heap.size g cap s i bs ∧ Below w3.heap.size w3 wr)) (fun ti _ _ => k + m - (intOf ti).toNat)
  case atStart => exact ⟨0, w3.heap.size, 0, by omega, rfl, rfl, ST.out⟩
  case round =>
    obtain ⟨i, g, cap, hi, rfl, rfl, HI⟩ := hrel
    clear ST
    by_cases hlt : i < k + m
    · obtain ⟨b, Hb⟩ : ∃ b, Hid (bs.getD i 0 = b) := ⟨_, rfl⟩
      have f1 : wr.cell? ⟨g1, i, none⟩ = some (sv s b) := by
        have h := CL.out i hlt
        rw [Hb.out] at h
        exact (HI.out.2.cell (p := ⟨g1, i, none⟩) (cell_lt' h)).trans h
      have i1 : (i : Int) < (k : Int) + (m : Int) := by omega
      have i2 : (i : Int) < ((k + m : Nat) : Int) := by omega
      obtain ⟨g', cap', w', ap, own', gr⟩ := app_shard wr w3.heap.size g i cap s b bs HI.out.1 HI.out.2.size (by omega) Hb.out
      have AP : Hid _ := ap
      have FIN : Hid (Own w' w3.heap.size g' cap' s (i + 1) bs ∧ Below w3.heap.size w3 w') := by
        have hb2 := HI.out.2.alloc HI.out.2.size (.cells #[.int .i64 (i : Int), sv s b] 54)
        exact ⟨own', hb2.grown gr hb2.size (fun k e => by simp at e; have := HI.out.1.lt; omega)⟩
      clear ap own' gr HI
      go_wp2_with (at_builtin; refine wpList_app43 (by rfl) (.tmp 60) (.tmp 64) (by rfl) (by rfl) (by rfl) (by rfl) AP ?_)
      go_roundw
      case rel => exact ⟨i + 1, g', cap', by omega, by go_num, rfl, FIN.out⟩
      case measure => simp [intOf]; omega
    · have e : i = k + m := by omega
      subst e
      have LS : Hid (Ls w3 wr g s (k + m) bs) := ⟨⟨_, HI.out.1.pc, Pf.id _⟩, HI.out.2, HI.out.1.lt⟩
      have CN : Hid (k + m ≤ cap ∧ cap ≤ 9223372036854775807) := HI.out.1.capn
      clear HI hi hlt
      simp only [Int.natCast_add]
      go_upto_block 2 with fail
      go_cut [9, 10] from 67 to 103 (fun t u wc => Hid (Ls w3 wc g s (k + m) bs))
      case first =>
        go_wp2_with fail
        go_loopw [9] (fun ti wr => ∃ i : Nat, i ≤ k + m ∧ ti = .int .i64 (i : Int) ∧ Hid (Ls w3 wr g s (k + m) bs)) (fun ti _ => k + m - (intOf ti).toNat)
        case atStart => exact ⟨0, by omega, rfl, LS.out⟩
        case round =>
          obtain ⟨i, hi, rfl, HI⟩ := hrel
          have X : Hid (Bx wr p (.int .i64 (k : Int)) (.int .i64 (m : Int)) (.slice aA nA kA) (.slice aB nB kB) (.slice aP nP kP)) := X3.out.below HI.out.bel
          have d4 := X.out.c4
          clear LS X
          by_cases hlt : i < k + m
          · have i1 : (i : Int) < (k : Int) + (m : Int) := by omega
            by_cases hlp : i < nP
            · have i2 : (i : Int) < (nP : Int) := by omega
              obtain ⟨pb, po, rfl, pc⟩ : ∃ b off, aP = some ⟨b, off, none⟩ ∧ ∀ i, i < nP → ∃ z : Int, wr.cell? ⟨b, off + i, none⟩ = some (.int .i64 z) := by
                rcases P3.out.below HI.out.bel with h | h
                · omega
                · exact h
              obtain ⟨z, hz⟩ := pc i hlp
              clear pc
              obtain ⟨t1, j, a1, a2, a3, a4, a5, a6⟩ := mod_fit z ((k : Int) + (m : Int)) (by omega) (by omega)
              have n0 : ¬ ((k : Int) + (m : Int) = 0) := by omega
              go_wp2
              have hj : j < k + m := by omega
              have i3 : (i : Int) < ((k + m : Nat) : Int) := by omega
              have j3 : (j : Int) < ((k + m : Nat) : Int) := by omega
              have L2 : Hid (Ls w3 wr.drew g s (k + m) bs) := HI.out.drewN 1
              generalize hw6 : wr.drew = w6 at L2
              have hw7 : ({ heap := wr.heap, tape := wr.tape, drawn := wr.drawn + 1, os := wr.os, output := wr.output } : World) = w6 := hw6
              refine wp_region_any (by kernel_rfl) ?_
              rw [hw7]
              clear hw6 hw7
              obtain ⟨f, pc, pf⟩ := L2.out.ex
              obtain ⟨x, Hx⟩ : ∃ x, Hid (f i = x) := ⟨_, rfl⟩
              obtain ⟨y, Hy⟩ : ∃ y, Hid (f j = y) := ⟨_, rfl⟩
              obtain ⟨bx, Hbx⟩ : ∃ b, Hid (bs.getD x 0 = b) := ⟨_, rfl⟩
              obtain ⟨by_, Hby⟩ : ∃ b, Hid (bs.getD y 0 = b) := ⟨_, rfl⟩
              have RI : Hid (w6.rangeAt g (i * 2) [.int .i64 (x : Int), sv s bx]) := by rw [← Hbx.out, ← Hx.out]; exact pc.c i hlt
              have RJ : Hid (w6.rangeAt g (j * 2) [.int .i64 (y : Int), sv s by_]) := by rw [← Hby.out, ← Hy.out]; exact pc.c j hj
              have TI : Hid (w6.there g (i * 2) 2) := pc.th i hlt
              have TJ : Hid ((w6.setCells g (i * 2) [.int .i64 (y : Int), sv s by_]).there g (j * 2) 2) := World.there_setCells (pc.th j hj) _ _ _
              have FIN : Hid (Ls w3 ((w6.setCells g (i * 2) [.int .i64 (y : Int), sv s by_]).setCells g (j * 2) [.int .i64 (x : Int), sv s bx]) g s (k + m) bs) := by
                have q1 := (pc.set i y hlt).set j x hj
                rw [Hbx.out, Hby.out] at q1
                have q2 := ((oth_cells g (i * 2) (.int .i64 (y : Int)) (sv s by_)).trans (oth_cells g (j * 2) (.int .i64 (x : Int)) (sv s bx)) : Oth g w6 _)
                refine ⟨⟨swp f i j, ?_, pf.swap hlt hj⟩, q2.below L2.out.bel L2.out.new.1, L2.out.new.1, by rw [q2.size]; exact L2.out.new.2⟩
                have e : swp f i j = fun a => if a = j then x else (fun a => if a = i then y else f a) a := by rw [← Hx.out, ← Hy.out]; rfl
                rw [e]
                exact q1
              clear pc pf HI L2 d4 hz
              refine wpAny_take (i := 0) (v := .slice (some ⟨g, 0, none⟩) (k + m) cap) rfl (by kernel_rfl) (by kernel_rfl) (by kernel_rfl) (fun _ _ _ h => h) (Or.inl ⟨by rfl, fun w => by go_simp⟩) ?_
              simp only [List.getElem_toArray, List.getElem_cons_zero, List.getElem_cons_succ, Act.put, List.setIfInBounds_toArray, List.set_cons_zero, List.set_cons_succ]
              refine wpAny_take (i := 1) (v := .int .i64 (i : Int)) rfl (by kernel_rfl) (by kernel_rfl) (by kernel_rfl) (fun _ _ _ h => h) (Or.inl ⟨by rfl, fun w => by go_simp⟩) ?_
              simp only [List.getElem_toArray, List.getElem_cons_zero, List.getElem_cons_succ, Act.put, List.setIfInBounds_toArray, List.set_cons_zero, List.set_cons_succ]
              refine wpAny_take (i := 2) (v := .slice (some ⟨g, 0, none⟩) (k + m) cap) rfl (by kernel_rfl) (by kernel_rfl) (by kernel_rfl) (fun _ _ _ h => h) (Or.inl ⟨by rfl, fun w => by go_simp⟩) ?_
              simp only [List.getElem_toArray, List.getElem_cons_zero, List.getElem_cons_succ, Act.put, List.setIfInBounds_toArray, List.set_cons_zero, List.set_cons_succ]
              refine wpAny_take (i := 3) (v := .int .i64 (j : Int)) rfl (by kernel_rfl) (by kernel_rfl) (by kernel_rfl) (fun _ _ _ h => h) (Or.inl ⟨by rfl, fun w => by go_simp⟩) ?_
              simp only [List.getElem_toArray, List.getElem_cons_zero, List.getElem_cons_succ, Act.put, List.setIfInBounds_toArray, List.set_cons_zero, List.set_cons_succ]
              refine wpAny_take (i := 4) (v := .slice (some ⟨g, 0, none⟩) (k + m) cap) rfl (by kernel_rfl) (by kernel_rfl) (by kernel_rfl) (fun _ _ _ h => h) (Or.inl ⟨by rfl, fun w => by go_simp⟩) ?_
              simp only [List.getElem_toArray, List.getElem_cons_zero, List.getElem_cons_succ, Act.put, List.setIfInBounds_toArray, List.set_cons_zero, List.set_cons_succ]
              refine wpAny_take (i := 5) (v := .int .i64 (j : Int)) rfl (by kernel_rfl) (by kernel_rfl) (by kernel_rfl) (fun _ _ _ h => h) (Or.inl ⟨by rfl, fun w => by go_simp⟩) ?_
              simp only [List.getElem_toArray, List.getElem_cons_zero, List.getElem_cons_succ, Act.put, List.setIfInBounds_toArray, List.set_cons_zero, List.set_cons_succ]
              refine wpAny_take (i := 6) (v := .pointer (some ⟨g, j * 2, none⟩)) rfl (by kernel_rfl) (by kernel_rfl) (by kernel_rfl) (fun _ _ _ h => h) (Or.inl ⟨by rfl, fun w => by go_simp⟩) ?_
              simp only [List.getElem_toArray, List.getElem_cons_zero, List.getElem_cons_succ, Act.put, List.setIfInBounds_toArray, List.set_cons_zero, List.set_cons_succ]
              refine wpAny_take (i := 8) (v := .slice (some ⟨g, 0, none⟩) (k + m) cap) rfl (by kernel_rfl) (by kernel_rfl) (by kernel_rfl) (fun _ _ _ h => h) (Or.inl ⟨by rfl, fun w => by go_simp⟩) ?_
              simp only [List.getElem_toArray, List.getElem_cons_zero, List.getElem_cons_succ, Act.put, List.setIfInBounds_toArray, List.set_cons_zero, List.set_cons_succ]
              refine wpAny_take (i := 9) (v := .int .i64 (i : Int)) rfl (by kernel_rfl) (by kernel_rfl) (by kernel_rfl) (fun _ _ _ h => h) (Or.inl ⟨by rfl, fun w => by go_simp⟩) ?_
              simp only [List.getElem_toArray, List.getElem_cons_zero, List.getElem_cons_succ, Act.put, List.setIfInBounds_toArray, List.set_cons_zero, List.set_cons_succ]
              refine wpAny_take (i := 10) (v := .pointer (some ⟨g, i * 2, none⟩)) rfl (by kernel_rfl) (by kernel_rfl) (by kernel_rfl) (fun _ _ _ h => h) (Or.inl ⟨by rfl, fun w => by go_simp⟩) ?_
              simp only [List.getElem_toArray, List.getElem_cons_zero, List.getElem_cons_succ, Act.put, List.setIfInBounds_toArray, List.set_cons_zero, List.set_cons_succ]
              refine wpAny_ready (rs := [7, 11]) (by kernel_rfl) (by simp) ?_
              refine AllReady.cons rfl (fun K hK => ?_) (AllReady.cons rfl (fun K hK => ?_) AllReady.nil)
              · simp only [List.getElem_toArray, List.getElem_cons_zero, List.getElem_cons_succ]
                rw [if_pos (by rfl)]
                refine wp_load_mid 54 (.tmp 96) (by rfl) g _ (by rfl) _ _ RJ.out Tryd.underlying54 (by rfl) size54 (hK _ _ ?_)
                simp only [List.getElem_toArray, List.getElem_cons_zero, List.getElem_cons_succ, Act.put, List.setIfInBounds_toArray, List.set_cons_zero, List.set_cons_succ]
                clear hK K
                refine wpAny_ready (rs := [11]) (by kernel_rfl) (by simp) ?_
                refine AllReady.cons rfl (fun K hK => ?_) AllReady.nil
                simp only [List.getElem_toArray, List.getElem_cons_zero, List.getElem_cons_succ]
                rw [if_pos (by rfl)]
                refine wp_load_mid 54 (.tmp 100) (by rfl) g _ (by rfl) _ _ RI.out Tryd.underlying54 (by rfl) size54 (hK _ _ ?_)
                simp only [List.getElem_toArray, List.getElem_cons_zero, List.getElem_cons_succ, Act.put, List.setIfInBounds_toArray, List.set_cons_zero, List.set_cons_succ]
                clear hK K
                refine wpAny_take (i := 12) (v := .pointer (some ⟨g, i * 2, none⟩)) rfl (by kernel_rfl) (by kernel_rfl) (by kernel_rfl) (fun _ _ _ h => h) (Or.inl ⟨by rfl, fun w => by go_simp⟩) ?_
                simp only [List.getElem_toArray, List.getElem_cons_zero, List.getElem_cons_succ, Act.put, List.setIfInBounds_toArray, List.set_cons_zero, List.set_cons_succ]
                refine wpAny_ready (rs := [13]) (by kernel_rfl) (by simp) (AllReady.cons rfl (fun K hK => ?_) AllReady.nil)
                simp only [List.getElem_toArray, List.getElem_cons_zero, List.getElem_cons_succ]
                rw [if_pos (by rfl)]
                refine wp_st54 (.tmp 102) (.tmp 97) (by rfl) g (i * 2) y s by_ (by rfl) (by rfl) TI.out (hK _ _ ?_)
                simp only [List.getElem_toArray, List.getElem_cons_zero, List.getElem_cons_succ, Act.put, List.setIfInBounds_toArray, List.set_cons_zero, List.set_cons_succ]
                clear hK K
                refine wpAny_take (i := 14) (v := .pointer (some ⟨g, j * 2, none⟩)) rfl (by kernel_rfl) (by kernel_rfl) (by kernel_rfl) (fun _ _ _ h => h) (Or.inl ⟨by rfl, fun w => by go_simp⟩) ?_
                simp only [List.getElem_toArray, List.getElem_cons_zero, List.getElem_cons_succ, Act.put, List.setIfInBounds_toArray, List.set_cons_zero, List.set_cons_succ]
                refine wpAny_seq' (k := 15) (by kernel_rfl) (by kernel_rfl) ?_
                simp only [List.drop_succ_cons, List.drop_zero]
                refine wpList_st54 (by rfl) (.tmp 103) (.tmp 101) (by rfl) g (j * 2) x s bx (by rfl) (by rfl) TJ.out ?_
                go_wp2
                go_roundw
                case rel => exact ⟨i + 1, by omega, by go_num, FIN.out⟩
                case measure => simp [intOf]; omega
              · simp only [List.getElem_toArray, List.getElem_cons_zero, List.getElem_cons_succ]
                rw [if_pos (by rfl)]
                refine wp_load_mid 54 (.tmp 100) (by rfl) g _ (by rfl) _ _ RI.out Tryd.underlying54 (by rfl) size54 (hK _ _ ?_)
                simp only [List.getElem_toArray, List.getElem_cons_zero, List.getElem_cons_succ, Act.put, List.setIfInBounds_toArray, List.set_cons_zero, List.set_cons_succ]
                clear hK K
                refine wpAny_ready (rs := [7]) (by kernel_rfl) (by simp) ?_
                refine AllReady.cons rfl (fun K hK => ?_) AllReady.nil
                simp only [List.getElem_toArray, List.getElem_cons_zero, List.getElem_cons_succ]
                rw [if_pos (by rfl)]
                refine wp_load_mid 54 (.tmp 96) (by rfl) g _ (by rfl) _ _ RJ.out Tryd.underlying54 (by rfl) size54 (hK _ _ ?_)
                simp only [List.getElem_toArray, List.getElem_cons_zero, List.getElem_cons_succ, Act.put, List.setIfInBounds_toArray, List.set_cons_zero, List.set_cons_succ]
                clear hK K
                refine wpAny_take (i := 12) (v := .pointer (some ⟨g, i * 2, none⟩)) rfl (by kernel_rfl) (by kernel_rfl) (by kernel_rfl) (fun _ _ _ h => h) (Or.inl ⟨by rfl, fun w => by go_simp⟩) ?_
                simp only [List.getElem_toArray, List.getElem_cons_zero, List.getElem_cons_succ, Act.put, List.setIfInBounds_toArray, List.set_cons_zero, List.set_cons_succ]
                refine wpAny_ready (rs := [13]) (by kernel_rfl) (by simp) (AllReady.cons rfl (fun K hK => ?_) AllReady.nil)
                simp only [List.getElem_toArray, List.getElem_cons_zero, List.getElem_cons_succ]
                rw [if_pos (by rfl)]
                refine wp_st54 (.tmp 102) (.tmp 97) (by rfl) g (i * 2) y s by_ (by rfl) (by rfl) TI.out (hK _ _ ?_)
                simp only [List.getElem_toArray, List.getElem_cons_zero, List.getElem_cons_succ, Act.put, List.setIfInBounds_toArray, List.set_cons_zero, List.set_cons_succ]
                clear hK K
                refine wpAny_take (i := 14) (v := .pointer (some ⟨g, j * 2, none⟩)) rfl (by kernel_rfl) (by kernel_rfl) (by kernel_rfl) (fun _ _ _ h => h) (Or.inl ⟨by rfl, fun w => by go_simp⟩) ?_
                simp only [List.getElem_toArray, List.getElem_cons_zero, List.getElem_cons_succ, Act.put, List.setIfInBounds_toArray, List.set_cons_zero, List.set_cons_succ]
                refine wpAny_seq' (k := 15) (by kernel_rfl) (by kernel_rfl) ?_
                simp only [List.drop_succ_cons, List.drop_zero]
                refine wpList_st54 (by rfl) (.tmp 103) (.tmp 101) (by rfl) g (j * 2) x s bx (by rfl) (by rfl) TJ.out ?_
                go_wp2
                go_roundw
                case rel => exact ⟨i + 1, by omega, by go_num, FIN.out⟩
                case measure => simp [intOf]; omega
            · have i2 : ¬ ((i : Int) < (nP : Int)) := by omega
              go_wp2
              go_meet
              case rel => exact HI.out
          · have i1 : ¬ ((i : Int) < (k : Int) + (m : Int)) := by omega
            go_wp2
            go_meet
            case rel => exact HI.out
      case rest =>
        have LS := hcut
        clear hcut
        have BX : Hid (Bx wc p (.int .i64 (k : Int)) (.int .i64 (m : Int)) (.slice aA nA kA) (.slice aB nB kB) (.slice aP nP kP)) := X3.out.below LS.out.bel
        obtain ⟨f, pc, pf⟩ := LS.out.ex
        obtain ⟨L, HL⟩ : ∃ L, Hid (lof k s lA f = L) := ⟨_, rfl⟩
        have HD : Hid (nA = lA.length) := A3.out.len
        have HB : Hid (∀ x ∈ lA, x < 256) := A3.out.lt
        have OF : Hid (Of wc (some ⟨g, 0, none⟩) k m nA L lA) := by
          rw [← HL.out, HD.out]
          exact pc.of pf h1 h2 h3 Hs.out hs (SH.out.below LS.out.bel) HB.out
        have BL4 : Hid (Below w.heap.size w wc) := BL3.out.trans (LS.out.bel.mono BL3.out.size)
        have A4 : Hid (Sln wc aA nA lA) := A3.out.below LS.out.bel
        have SH4 : Hid (Shs wc bs s (shards k m lA)) := SH.out.below LS.out.bel
        have CL4 : Hid (∀ t, t < k + m → wc.cell? ⟨g1, t, none⟩ = some (sv s (bs.getD t 0))) := fun t ht => (LS.out.bel.cell (p := ⟨g1, t, none⟩) (cell_lt' (CL.out t ht))).trans (CL.out t ht)
        have OD : Hid (Of wc.drew (some ⟨g, 0, none⟩) k m nA L lA) := OF.out.below (below_drewN (Below.refl _ _) 1)
        have kc : (k : Int) ≤ (cap : Int) := by have := CN.out.1; omega
        have c0 := BX.out.c0
        have c1 := BX.out.c1
        have c2 := BX.out.c2
        clear pc pf HL LS SH CL A3 X3 BL3 P3 CN
        go_wp2
        go_region_held (fun w' => w'.cell? ⟨p, 0, none⟩ = some (.int .i64 (k : Int)) ∧ w'.cell? ⟨p, 1, none⟩ = some (.int .i64 (m : Int)) ∧ w'.cell? ⟨p, 2, none⟩ = some (.slice aA nA kA)) (go_keep) (first | (go_at_call 22; refine (decode_data k m nA cap (some ⟨g, 0, none⟩) L lA _ h1 h2 h3 hn HD HB OD).mono ?_; rintro e w5 ⟨g2, rfl, H5⟩; have X5 : Hid (Bx w5 p (.int .i64 (k : Int)) (.int .i64 (m : Int)) (.slice aA nA kA) (.slice aB nB kB) (.slice aP nP kP)) := BX.out.below ((Below.refl _ _).drew.trans (H5.out.2.2.mono (Nat.le_refl _))); have d0 := X5.out.c0; have d1 := X5.out.c1; have d2 := X5.out.c2))
        have bw5 : Hid (Below wc.heap.size wc w5) := (Below.refl _ _).drew.trans (H5.out.2.2.mono (Nat.le_refl _))
        have S5 : Hid (Sln w5 (some ⟨g2, 0, none⟩) nA lA) := ⟨HD.out, H5.out.2.1.sli HB.out (by rw [← HD.out]; omega)⟩
        have A5 : Hid (Sln w5 aA nA lA) := A4.out.below bw5.out
        have cv1 := conv_n (k := nA) S5
        have cv2 := conv_n (k := kA) A5
        have BL5 : Hid (Below w.heap.size w w5) := BL4.out.trans (bw5.out.mono BL4.out.size)
        have SH5 : Hid (Shs w5 bs s (shards k m lA)) := SH4.out.below bw5.out
        have CL5 : Hid (∀ t, t < k + m → w5.cell? ⟨g1, t, none⟩ = some (sv s (bs.getD t 0))) := fun t ht => (bw5.out.cell (p := ⟨g1, t, none⟩) (cell_lt' (CL4.out t ht))).trans (CL4.out t ht)
        have OF5 : Hid (Of w5 (some ⟨g, 0, none⟩) k m nA L lA) := OF.out.below bw5.out
        clear bw5 H5 OD OF A4 SH4 CL4 BL4 BX c0 c1 c2
        go_wp2
        clear cv1 cv2 d0 d1 d2 S5
        go_loopw [131] (fun ti wr => ∃ j : Nat, j ≤ k + m ∧ ti = .int .i64 (j : Int) ∧ Hid (Below w5.heap.size w5 wr)) (fun ti _ => k + m - (intOf ti).toNat)
        case atStart => exact ⟨0, by omega, rfl, Below.refl _ _⟩
        case round =>
          obtain ⟨j, hj, rfl, HJ⟩ := hrel
          by_cases hlt : j < k + m
          · obtain ⟨b, Hb⟩ : ∃ b, Hid (bs.getD j 0 = b) := ⟨_, rfl⟩
            have j1 : (j : Int) < (k : Int) + (m : Int) := by omega
            have j2 : (j : Int) < ((k + m : Nat) : Int) := by omega
            have XR : Hid (Bx wr p (.int .i64 (k : Int)) (.int .i64 (m : Int)) (.slice aA nA kA) (.slice aB nB kB) (.slice aP nP kP)) := X5.out.below HJ.out
            have OD : Hid (Of wr.drew (some ⟨g, 0, none⟩) k m nA L lA) := (OF5.out.below HJ.out).below (below_drewN (Below.refl _ _) 1)
            have c0 := XR.out.c0
            have c1 := XR.out.c1
            have c2 := XR.out.c2
            go_wp2
            go_region_held (fun w' => w'.cell? ⟨p, 0, none⟩ = some (.int .i64 (k : Int)) ∧ w'.cell? ⟨p, 1, none⟩ = some (.int .i64 (m : Int)) ∧ w'.cell? ⟨p, 2, none⟩ = some (.slice aA nA kA)) (go_keep) (first | (go_at_call 23; refine (rebuild_data k m nA cap j (some ⟨g, 0, none⟩) L lA _ h1 h2 h3 hn hlt HD HB OD).mono ?_; rintro e w6 ⟨b6, s6, rfl, H6⟩; have X6 : Hid (Bx w6 p (.int .i64 (k : Int)) (.int .i64 (m : Int)) (.slice aA nA kA) (.slice aB nB kB) (.slice aP nP kP)) := XR.out.below ((Below.refl _ _).drew.trans (H6.out.2.2.2.mono (Nat.le_refl _))); have d0 := X6.out.c0; have d1 := X6.out.c1; have d2 := X6.out.c2))
            have es : s6 = s := by rw [H6.out.1, Hs.out, ← HD.out]
            subst es
            have bw6 : Hid (Below wr.heap.size wr w6) := (Below.refl _ _).drew.trans (H6.out.2.2.2.mono (Nat.le_refl _))
            have B6 : Hid (Below w5.heap.size w5 w6) := HJ.out.trans (bw6.out.mono HJ.out.size)
            obtain ⟨l, Hl⟩ : ∃ l, Hid (shard k s6 lA j = l) := ⟨_, rfl⟩
            have LL : Hid (l.length = s6 ∧ ∀ x ∈ l, x < 256) := by
              rw [← Hl.out]
              exact ⟨shard_length _ _ _ _, shard_lt HB.out j (by omega) (by omega)⟩
            have T6 : Hid (Sln w6 (some ⟨b6, 0, none⟩) s6 l) := by
              have h := H6.out.2.2.1
              rw [← H6.out.1, Hl.out] at h
              exact ⟨LL.out.1.symm, h.sli LL.out.2 (by rw [LL.out.1]; omega)⟩
            have U6 : Hid (Sln w6 (some ⟨b, 0, none⟩) s6 l) := by
              have h := (SH5.out.below B6.out).blk j (by simp [shards]; exact hlt)
              rw [shards_getD hlt, ← Hs.out, Hb.out, Hl.out] at h
              exact ⟨LL.out.1.symm, h.sli LL.out.2 (by rw [LL.out.1]; omega)⟩
            have f6 : w6.cell? ⟨g1, j, none⟩ = some (sv s6 b) := by
              have h := CL5.out j hlt
              rw [Hb.out] at h
              exact (B6.out.cell (p := ⟨g1, j, none⟩) (cell_lt' h)).trans h
            have v1 : ∀ q, (convert 33 9 (.slice (some ⟨b6, 0, none⟩) s6 s6)).run Tryd.prog (w6.drewN q) = .ok (.string (spell l)) (w6.drewN q) := fun q => conv_n (T6.out.drewN q)
            have v2 : ∀ q, (convert 33 9 (.slice (some ⟨b, 0, none⟩) s6 s6)).run Tryd.prog (w6.drewN q) = .ok (.string (spell l)) (w6.drewN q) := fun q => conv_n (U6.out.drewN q)
            clear T6 U6 H6 bw6 OD XR X6 c0 c1 c2 d0 d1 d2 HJ
            go_wp2
            go_quiet (fail)
            have Q6 : Hid (Below w5.heap.size w5 (w6.drewN nq)) := below_drewN B6.out nq
            clear f6 v1 v2 B6
            go_wp2
            go_roundw
            case rel => exact ⟨j + 1, by omega, by go_num, Q6.out⟩
            case measure => simp [intOf]; omega
          · have e : j = k + m := by omega
            have FIN : Hid (Below w.heap.size w wr) := BL5.out.trans (HJ.out.mono BL5.out.size)
            clear HJ
            subst e
            go_wp2
            go_ret
            exact ⟨rfl, FIN.out⟩
set_option maxRecDepth 20000 in
theorem any_not (k m : Int) (nA kA nB kB nP kP : Nat) (aA aB aP : Option Addr) (w : World) (wk : (Lit.int .i64 k).wf = true) (wm : (Lit.int .i64 m).wf = true) (hL : ¬ Lgl k m) :
    Calls Tryd.prog 6 #[.agg #[.int .i64 k, .int .i64 m, .slice aA nA kA, .slice aB nB kB, .slice aP nP kP]] w fun e w' => e = .returned (.bool true) ∧ Hid (Below w.heap.size w w') := by
  have HL : Hid (¬ Lgl k m) := hL
  clear hL
  go_enter Tryd.func6, Tryd.ntmps6
  go_upto_region 3 with (go_at_call 9; refine (alive_any _).mono ?_; rintro e w1 ⟨rfl, H1⟩)
  have HX : Hid (Bx w1 w.heap.size (.int .i64 k) (.int .i64 m) (.slice aA nA kA) (.slice aB nB kB) (.slice aP nP kP)) := (Bx.new w _ _ _ _ _ _).below H1.out
  have HBL : Hid (Below w.heap.size w w1) := ((Below.refl w.heap.size w).alloc (Nat.le_refl _) _).trans (H1.out.mono (by simp))
  clear H1
  have c0 := HX.out.c0
  have c1 := HX.out.c1
  have c2 := HX.out.c2
  go_wp2_with (go_at_call 11; refine (legal_f k m wk wm HL.out _).mono ?_; rintro e w0 ⟨rfl, h0⟩; rw [h0]; clear h0)
  all_goals
    go_ret
    exact ⟨rfl, HBL.out⟩
set_option maxRecDepth 20000 in
theorem any_long (k m nA kA nB kB nP kP : Nat) (aA aB aP : Option Addr) (w : World) (h1 : 1 ≤ m) (h2 : m ≤ k) (h3 : k + m ≤ 16) (hn : ¬ nA ≤ 1024) :
    Calls Tryd.prog 6 #[.agg #[.int .i64 (k : Int), .int .i64 (m : Int), .slice aA nA kA, .slice aB nB kB, .slice aP nP kP]] w fun e w' => e = .returned (.bool true) ∧ Hid (Below w.heap.size w w') := by
  have i1 : (1024 : Int) < (nA : Int) := by omega
  go_enter Tryd.func6, Tryd.ntmps6
  go_upto_region 3 with (go_at_call 9; refine (alive_any _).mono ?_; rintro e w1 ⟨rfl, H1⟩)
  have HX : Hid (Bx w1 w.heap.size (.int .i64 (k : Int)) (.int .i64 (m : Int)) (.slice aA nA kA) (.slice aB nB kB) (.slice aP nP kP)) := (Bx.new w _ _ _ _ _ _).below H1.out
  have HBL : Hid (Below w.heap.size w w1) := ((Below.refl w.heap.size w).alloc (Nat.le_refl _) _).trans (H1.out.mono (by simp))
  clear H1
  have c0 := HX.out.c0
  have c1 := HX.out.c1
  have c2 := HX.out.c2
  go_wp2_with (go_at_call 11; refine (legal_t k m h1 h2 h3 _).mono ?_; rintro e w0 ⟨rfl, h0⟩; rw [h0]; clear h0)
  all_goals
    go_ret
    exact ⟨rfl, HBL.out⟩
end Go.Proofs.YtokkjdgfhpocdaaDoor
