/- What the document's Good does: are they k shards of that size? -/
import Derived.Test.YtokkjdgfhpocdaaDoorEd
namespace Go.Proofs.YtokkjdgfhpocdaaDoor
open Go.ChangeShapes Go.WideShapes Go.ChangeAt Go.RowKit
set_option linter.unusedVariables false
set_option linter.unusedSimpArgs false
set_option linter.unnecessarySimpa false
set_option maxRecDepth 20000 in
set_option maxHeartbeats 1000000 in
theorem good_any (k m size n c : Nat) (a : Option Addr) (L : List (Int × List Nat)) (w : World) (h2 : 1 ≤ k) (h3 : k + m ≤ 16) (hsz : size ≤ 1100) (S : Hid (Shd w a n L)) :
    Calls Tryd.prog 26 #[.int .i64 (k : Int), .int .i64 (m : Int), .int .i64 (size : Int), .slice a n c] w fun e w' => EnP n k (k + m) size L w e w' := by
  by_cases hk : n = k
  · subst hk
    obtain ⟨b, off, rfl, S2⟩ : ∃ b off, a = some ⟨b, off, none⟩ ∧ Hid (Shd w (some ⟨b, off, none⟩) n L) := by
      rcases S.out.at_ with h0 | ⟨b, off, h1, _⟩
      · omega
      · exact ⟨b, off, h1, h1 ▸ S.out⟩
    go_enter Tryd.func26, Tryd.ntmps26
    go_wp2
    go_loopw [18] (fun ti wr => ∃ i : Nat, i ≤ n ∧ ti = .int .i64 i ∧ Hid ((∀ j, j < i → OkAt (n + m) size L j) ∧ Below w.heap.size w wr)) (fun ti _ => n - (intOf ti).toNat)
    case atStart => exact ⟨0, by omega, rfl, fun j hj => by omega, Below.refl _ _⟩
    case round =>
      obtain ⟨i, hi, rfl, HI⟩ := hrel
      by_cases hlt : i < n
      · have SW : Shd wr (some ⟨b, off, none⟩) n L := S2.out.below HI.out.2
        obtain ⟨b', off', e1, hc⟩ := SW.at_.resolve_left (by omega)
        simp at e1
        obtain ⟨rfl, rfl⟩ := e1
        obtain ⟨c0, a1, m1, cc, c1, s1, hmc, hcc, _⟩ := hc i hlt
        have wfn := SW.wf i hlt
        obtain ⟨z, Hz⟩ : ∃ z, Hid (nu L i = z) := ⟨_, rfl⟩
        rw [Hz.out] at c0 wfn
        have HM : Hid (m1 = (by_ L i).length) := s1.len
        have i1 : (i : Int) < (n : Int) := by omega
        have m2 : m1 ≤ 140737488351232 := by omega
        have HLn : Hid (n = L.length) := SW.len
        clear hc SW s1
        obtain ⟨w1, hw1⟩ : ∃ w1, w1 = wr.alloc (.cells #[.int .i64 z, .slice a1 m1 cc] 54) := ⟨_, rfl⟩
        have d0 : w1.cell? ⟨wr.heap.size, 0, none⟩ = some (.int .i64 z) := by rw [hw1]; simp
        have d1 : w1.cell? ⟨wr.heap.size, 1, none⟩ = some (.slice a1 m1 cc) := by rw [hw1]; simp
        have L1 : Hid (Below w.heap.size w w1) := by rw [hw1]; exact HI.out.2.alloc HI.out.2.size _
        have OK1 : Hid (∀ j, j < i → OkAt (n + m) size L j) := HI.out.1
        have bad : ¬ OkAt (n + m) size L i → Hid (∀ q, (false = true ↔ n = n ∧ GoodL (n + m) size L) ∧ Below w.heap.size w (w1.drewN q)) := fun hb q => ⟨⟨fun h => (by cases h), fun h => absurd (h.2 i (by rw [← HLn.out]; exact hlt)) hb⟩, below_drewN L1.out q⟩
        clear HI
        go_upto_region 6 with (fail)
        rw [← hw1]
        obtain ⟨q, hq⟩ : ∃ q, q = wr.heap.size := ⟨_, rfl⟩
        rw [← hq] at d0 d1 ⊢
        clear hw1 hq c0 c1
        by_cases hz0 : z < 0
        · have BAD := bad (fun h => by have := h.1.1; rw [Hz.out] at this; omega)
          clear bad
          go_wp2
          go_ret
          exact ⟨false, rfl, by simpa using (BAD.out 0).1, (BAD.out 0).2⟩
        · by_cases hz1 : (n : Int) + (m : Int) ≤ z
          · have BAD := bad (fun h => by have := h.1.2; rw [Hz.out] at this; omega)
            clear bad
            go_wp2
            go_ret
            exact ⟨false, rfl, by simpa using (BAD.out 0).1, (BAD.out 0).2⟩
          · by_cases hl : m1 = size
            · subst hl
              go_wp2
              clear d1
              go_loopw [11] (fun tj wx => ∃ j : Nat, j ≤ i ∧ tj = .int .i64 (j : Int) ∧ Hid ((∀ t, t < j → nu L t ≠ z) ∧ ∃ q, wx = w1.drewN q)) (fun tj _ => i - (intOf tj).toNat)
              case atStart => exact ⟨0, by omega, rfl, fun t ht => by omega, 0, rfl⟩
              case round =>
                obtain ⟨j, hj, rfl, HJ⟩ := hrel
                by_cases hjl : j < i
                · obtain ⟨y, Hy⟩ : ∃ y, Hid (nu L j = y) := ⟨_, rfl⟩
                  obtain ⟨q2, HQ2⟩ : ∃ q2, Hid (wr = w1.drewN q2) := HJ.out.2
                  have SX : Shd wr (some ⟨b, off, none⟩) n L := by rw [HQ2.out]; exact S2.out.below (below_drewN L1.out q2)
                  obtain ⟨b', off', e1, hc⟩ := SX.at_.resolve_left (by omega)
                  simp at e1
                  obtain ⟨rfl, rfl⟩ := e1
                  obtain ⟨c0, _⟩ := hc j (by omega)
                  rw [Hy.out] at c0
                  have c1 : wr.cell? ⟨q, 0, none⟩ = some (.int .i64 z) := by rw [HQ2.out, cell_drewN]; exact d0
                  have j1 : (j : Int) < (i : Int) := by omega
                  have j2 : (j : Int) < (n : Int) := by omega
                  clear hc SX d0
                  by_cases hyz : y = z
                  · have BAD := bad (fun h => h.2.2 j hjl (by rw [Hy.out, Hz.out]; exact hyz))
                    have hy2 : (y == z) = true := by simp [hyz]
                    clear bad hyz
                    go_wp2
                    go_quiet (fail)
                    rw [HQ2.out, World.drewN_drewN]
                    clear HQ2 c0 c1
                    go_wp2
                    go_ret
                    exact ⟨false, rfl, by simpa using (BAD.out 0).1, (BAD.out _).2⟩
                  · have hy2 : (y == z) = false := by simp [hyz]
                    have FIN : Hid ((∀ t, t < j + 1 → nu L t ≠ z) ∧ ∃ q, wr.drewN 0 = w1.drewN q) := by
                      refine ⟨fun t ht => ?_, q2, by rw [HQ2.out]; rfl⟩
                      by_cases htj : t < j
                      · exact HJ.out.1 t htj
                      · have : t = j := by omega
                        subst this
                        rw [Hy.out]; exact hyz
                    clear bad hyz HJ
                    go_wp2
                    go_quiet (fail)
                    have F2 : Hid ((∀ t, t < j + 1 → nu L t ≠ z) ∧ ∃ q, wr.drewN nq = w1.drewN q) := ⟨FIN.out.1, q2 + nq, by rw [HQ2.out, World.drewN_drewN]⟩
                    clear HQ2 c0 c1 FIN
                    go_wp2
                    go_roundw
                    case rel => exact ⟨j + 1, by omega, by go_num, F2.out⟩
                    case measure => simp [intOf]; omega
                · have e : j = i := by omega
                  have FIN : Hid ((∀ j, j < i + 1 → OkAt (n + m) m1 L j) ∧ Below w.heap.size w wr) := by
                    refine ⟨fun t ht => ?_, ?_⟩
                    · by_cases hti : t < i
                      · exact OK1.out t hti
                      · have : t = i := by omega
                        subst this
                        exact ⟨by rw [Hz.out]; omega, HM.out.symm, fun u hu h => HJ.out.1 u (by omega) (by rw [h, Hz.out])⟩
                    · obtain ⟨q2, hq2⟩ := HJ.out.2
                      rw [hq2]; exact below_drewN L1.out q2
                  subst e
                  clear bad HJ d0
                  go_wp2
                  go_roundw
                  case rel => exact ⟨j + 1, by omega, by go_num, FIN.out⟩
                  case measure => simp [intOf]; omega
            · have BAD := bad (fun h => hl (by rw [HM.out]; exact h.2.1))
              have hl2 : ((m1 : Int) == (size : Int)) = false := by simp; omega
              clear bad hl
              go_wp2
              go_ret
              exact ⟨false, rfl, by simpa using (BAD.out 0).1, (BAD.out 0).2⟩
      · have e : i = n := by omega
        subst e
        have FIN : Hid ((true = true ↔ i = i ∧ GoodL (i + m) size L) ∧ Below w.heap.size w wr) := ⟨⟨fun _ => ⟨rfl, fun j hj => HI.out.1 j (by rw [S2.out.len]; exact hj)⟩, fun _ => rfl⟩, HI.out.2⟩
        clear HI
        go_wp2
        go_ret
        exact ⟨true, rfl, by simpa using FIN.out.1, FIN.out.2⟩
  · have hk2 : ((n : Int) == (k : Int)) = false := by simp; omega
    have hcap := S.out.cap
    have FIN : Hid ((false = true ↔ n = k ∧ GoodL (k + m) size L) ∧ Below w.heap.size w w) := ⟨⟨fun h => (by cases h), fun h => absurd h.1 hk⟩, Below.refl _ _⟩
    clear hk
    go_enter Tryd.func26, Tryd.ntmps26
    go_wp2
    go_ret
    exact ⟨false, rfl, FIN.out⟩
end Go.Proofs.YtokkjdgfhpocdaaDoor
