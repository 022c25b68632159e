import Derived.Test.YtfabnnbljkkihaaGreatDoorMxp
import Derived.Test.YtfabnnbljkkihaaGreatDoorMx30
namespace Go.Proofs.YtfabnnbljkkihaaGreatDoor
open Go.ChangeShapes Go.WideShapes Go.ChangeAt Go.RowKit
set_option maxRecDepth 20000
set_option linter.unusedVariables false
set_option linter.unusedSimpArgs false
theorem two_new (W : World) (C R : Array Value) (hC : C.size = 2) (hR : R.size = 2) : ∃ w3, Hid ((((W.alloc (.cells #[.slice none 0 0,.slice none 0 0] 58)).alloc (.cells #[.int .i64 0,.string ⟨#[]⟩] 51)).setRow W.heap.size C).setRow (W.heap.size + 1) R = w3) /\ Hid (((W.alloc (.cells #[.slice none 0 0,.slice none 0 0] 58)).alloc (.cells #[.int .i64 0,.string ⟨#[]⟩] 51)).heap[W.heap.size]? = some (.cells #[.slice none 0 0,.slice none 0 0] 58 (0, 0))) /\ Hid ((((W.alloc (.cells #[.slice none 0 0,.slice none 0 0] 58)).alloc (.cells #[.int .i64 0,.string ⟨#[]⟩] 51)).setRow W.heap.size C).heap[W.heap.size + 1]? = some (.cells #[.int .i64 0,.string ⟨#[]⟩] 51 (0, 0))) /\ Hid (w3.heap[W.heap.size]? = some (.cells C 58 (0, 0)) /\ w3.heap[W.heap.size + 1]? = some (.cells R 51 (0, 0)) /\ Below W.heap.size W w3 /\ W.heap.size + 2 <= w3.heap.size) := by
 have e1 : ((W.alloc (.cells #[.slice none 0 0,.slice none 0 0] 58)).alloc (.cells #[.int .i64 0,.string ⟨#[]⟩] 51)).heap[W.heap.size]? = some (.cells #[.slice none 0 0,.slice none 0 0] 58 (0, 0)) := ((alloc1 (W.alloc (.cells #[.slice none 0 0,.slice none 0 0] 58)) _).block W.heap.size (by simp)).trans (heap_alloc_new W _)
 have e2 : ((W.alloc (.cells #[.slice none 0 0,.slice none 0 0] 58)).alloc (.cells #[.int .i64 0,.string ⟨#[]⟩] 51)).heap[W.heap.size + 1]? = some (.cells #[.int .i64 0,.string ⟨#[]⟩] 51 (0, 0)) := by
  have e : (W.alloc (.cells #[.slice none 0 0,.slice none 0 0] 58)).heap.size = W.heap.size + 1 := by simp
  rw [<- e]
  exact heap_alloc_new _ _
 have e3 : (((W.alloc (.cells #[.slice none 0 0,.slice none 0 0] 58)).alloc (.cells #[.int .i64 0,.string ⟨#[]⟩] 51)).setRow W.heap.size C).heap[W.heap.size + 1]? = some (.cells #[.int .i64 0,.string ⟨#[]⟩] 51 (0, 0)) := (setRow_other _ _ _ _ (by omega)).trans e2
 refine ⟨_, rfl, e1, e3, ?_, setRow_heap _ _ _ _ _ _ e3, below_setRow (below_setRow (alloc2 W _ _) (Nat.le_refl _) _) (by omega) _, ?_⟩
 . rw [setRow_other _ _ _ _ (by omega)]
   exact setRow_heap _ _ _ _ _ _ e1
 . rw [setRow_size, setRow_size]; simp
def xb : Cx := ⟨⟨1, 0, 0, 0, ⟨#[97, 97, 97]⟩, ⟨#[]⟩, 0, 0, 0, 0, 0, 0, 0, ⟨#[]⟩, 0, [], 4, 0⟩, none, 0, 0⟩
def xc : Cx := ⟨⟨1, 0, 0, 0, ⟨#[97, 97, 97]⟩, ⟨#[]⟩, 0, 0, 0, 0, 0, 0, 0, ⟨#[]⟩, 0, [], 0, 0⟩, none, 0, 0⟩
def bk0 : Bkd := ⟨⟨#[97, 97, 97]⟩, 4, 0, [], []⟩
theorem app_b : app sumO ⟨[], []⟩ xb.cm = (⟨[bk0], []⟩, okO) := rfl
theorem app_c : app sumO ⟨[bk0], []⟩ xc.cm = (⟨[bk0], []⟩, noO 4) := by kernel_rfl
theorem etb0 : EtB ⟨[], []⟩ := fun b hb => by cases hb
theorem etb1 : EtB ⟨[bk0], []⟩ := fun b hb u hu => by rw [List.mem_singleton.1 hb] at hu; cases hu
theorem okc_b (w : World) : Okc w xb := ⟨(by decide : _ /\ _ /\ _), by decide, ⟨rfl, by show 0 <= _; omega, .inl rfl⟩, by decide⟩
theorem okc_c (w : World) : Okc w xc := ⟨(by decide : _ /\ _ /\ _), by decide, ⟨rfl, by show 0 <= _; omega, .inl rfl⟩, by decide⟩
set_option maxHeartbeats 4000000 in
theorem alive11_n {w : World} (hV : Hid (Ev w)) : Calls Tryz.prog 22 #[] w fun e w' => e = .returned (.bool true) /\ Hid (Below w.heap.size w w') := by
 obtain ⟨A, HA⟩ : ∃ A, Hid (A = (encX xb).toArray) := ⟨_, rfl⟩
 have HL : Hid (#[.int .i64 1,.int .i64 0,.int .i64 0,.int .i64 0,.string ⟨#[97, 97, 97]⟩,.string ⟨#[]⟩,.int .i64 0,.int .i64 0,.int .i64 0,.int .i64 0,.int .i64 0,.int .i64 0,.int .i64 0,.string ⟨#[]⟩,.int .i64 0,.slice none 0 0,.int .i64 4,.int .i64 0] = A) := (by rw [HA.out]; rfl : #[.int .i64 1,.int .i64 0,.int .i64 0,.int .i64 0,.string ⟨#[97, 97, 97]⟩,.string ⟨#[]⟩,.int .i64 0,.int .i64 0,.int .i64 0,.int .i64 0,.int .i64 0,.int .i64 0,.int .i64 0,.string ⟨#[]⟩,.int .i64 0,.slice none 0 0,.int .i64 4,.int .i64 0] = A)
 obtain ⟨B, HB⟩ : ∃ A, Hid (A = (encX xc).toArray) := ⟨_, rfl⟩
 have HM : Hid (#[.int .i64 1,.int .i64 0,.int .i64 0,.int .i64 0,.string ⟨#[97, 97, 97]⟩,.string ⟨#[]⟩,.int .i64 0,.int .i64 0,.int .i64 0,.int .i64 0,.int .i64 0,.int .i64 0,.int .i64 0,.string ⟨#[]⟩,.int .i64 0,.slice none 0 0,.int .i64 0,.int .i64 0] = B) := (by rw [HB.out]; rfl : #[.int .i64 1,.int .i64 0,.int .i64 0,.int .i64 0,.string ⟨#[97, 97, 97]⟩,.string ⟨#[]⟩,.int .i64 0,.int .i64 0,.int .i64 0,.int .i64 0,.int .i64 0,.int .i64 0,.int .i64 0,.string ⟨#[]⟩,.int .i64 0,.slice none 0 0,.int .i64 0,.int .i64 0] = B)
 have O1 : Hid (Okc w xb) := okc_b w
 have C0 : Hid (Ctm 16 w 0 #[.slice none 0 0,.slice none 0 0] ⟨[], []⟩) := Ctm.zero _ _ _
 have E0 : Hid (EtB ⟨[], []⟩) := etb0
 have E1 : Hid (EtB ⟨[bk0], []⟩) := etb1
 go_enter Tryz.func22, Tryz.ntmps22
 go_upto_region 2 with (first
  | (go_at_call 25; rw [HL.out]; refine (apply_n (K := 16) (by omega) (by omega) HA O1 C0 E0 hV).mono ?_; rintro e w2 ⟨C, R, rfl, H2⟩
     have CS : Hid (C.size = 2) := H2.out.1.arr.1
     have CA : Hid (C.all (·.oneCell') = true) := H2.out.1.arr.2
     have RA0 : Hid (Arr 2 R) := (by rw [H2.out.2.1]; exact outR_arr _ : Arr 2 R)
     have RS : Hid (R.size = 2) := RA0.out.1
     have RA : Hid (R.all (·.oneCell') = true) := RA0.out.2
     have c2 : (Tryz.prog.info? 58).map (·.size) = some C.size := (by rw [CS.out]; exact inz58)
     have r2 : (Tryz.prog.info? 51).map (·.size) = some R.size := (by rw [RS.out]; exact outZ)
     obtain ⟨w3, Hw3, Z1, Z2, K3⟩ := two_new w2 C R CS.out RS.out)
  | (refine wpList_store_row (by rfl) 58 (.tmp 1) (.tmp 9) (by rfl) w2.heap.size C (by rfl) (by rfl) 58 _ Z1.out c2 (by rw [CS.out]; rfl) CA.out ?_)
  | (refine wpList_store_row (by rfl) 51 (.tmp 2) (.tmp 10) (by rfl) (w2.heap.size + 1) R (by rfl) (by rfl) 51 _ Z2.out r2 (by rw [RS.out]; rfl) RA.out ?_))
 obtain ⟨g, Hg⟩ := nm (w2.heap.size)
 rw [Hw3.out, Hg.out]
 have B2 : Hid (Below w.heap.size w w2) := H2.out.2.2
 have B3 : Hid (Below w2.heap.size w2 w3) := K3.out.2.2.1
 have B23 := bt B2 B3
 have kc : Hid (w3.heap[g]? = some (.cells C 58 (0, 0))) := by rw [<- Hg.out]; exact K3.out.1
 have kr : Hid (w3.heap[g + 1]? = some (.cells R 51 (0, 0))) := by rw [<- Hg.out]; exact K3.out.2.1
 have CM : Hid (Ctm 17 w3 w.heap.size C ⟨[bk0], []⟩) := by
  have h := H2.out.1.below B3.out
  rw [app_b] at h
  exact h
 have ER : Hid (R = outR okO) := by
  have h := H2.out.2.1
  rw [app_b] at h
  exact h
 have V3 : Hid (Ev w3) := hV.out.below B23.out
 have O2 : Hid (Okc w3 xc) := okc_c w3
 clear Hw3 Z1 Z2 K3 H2
 go_upto_region 3 with (first
  | (refine wpList_load_row (by rfl) 58 (.tmp 1) (by rfl) g (by rfl) 58 C (0, 0) _ kc.out Tryz.underlying58 rfl c2 ?_)
  | (go_at_call 25; rw [HM.out]; refine (apply_n (K := 17) (by omega) (by omega) HB O2 CM E1 V3).mono ?_; rintro e w4 ⟨C2, R2, rfl, H4⟩
     have CS2 : Hid (C2.size = 2) := H4.out.1.arr.1
     have CA2 : Hid (C2.all (·.oneCell') = true) := H4.out.1.arr.2
     have RA2 : Hid (Arr 2 R2) := (by rw [H4.out.2.1]; exact outR_arr _ : Arr 2 R2)
     have RS2 : Hid (R2.size = 2) := RA2.out.1
     have RO2 : Hid (R2.all (·.oneCell') = true) := RA2.out.2
     have c4 : (Tryz.prog.info? 58).map (·.size) = some C2.size := (by rw [CS2.out]; exact inz58)
     have r4 : (Tryz.prog.info? 51).map (·.size) = some R2.size := (by rw [RS2.out]; exact outZ)
     obtain ⟨w5, Hw5, Z1, Z2, K5⟩ := two_new w4 C2 R2 CS2.out RS2.out)
  | (refine wpList_store_row (by rfl) 58 (.tmp 3) (.tmp 15) (by rfl) w4.heap.size C2 (by rfl) (by rfl) 58 _ Z1.out c4 (by rw [CS2.out]; rfl) CA2.out ?_)
  | (refine wpList_store_row (by rfl) 51 (.tmp 4) (.tmp 16) (by rfl) (w4.heap.size + 1) R2 (by rfl) (by rfl) 51 _ Z2.out r4 (by rw [RS2.out]; rfl) RO2.out ?_))
 obtain ⟨g4, Hg4⟩ := nm (w4.heap.size)
 rw [Hw5.out, Hg4.out]
 have B4 : Hid (Below w3.heap.size w3 w4) := H4.out.2.2
 have B45 : Hid (Below w3.heap.size w3 w5) := B4.out.trans (K5.out.2.2.1.mono B4.out.size)
 have ER2 : Hid (R2 = outR (noO 4)) := by
  have h := H4.out.2.1
  rw [app_c] at h
  exact h
 obtain ⟨a, n, c, X, fa, fn, fc, F, EC, CO, HP⟩ := CM.out
 have hX : ∃ x, X = [x] /\ x.tm = 4 := by
  have h : X.map Bkx.bk = [bk0] := (congrArg Ctd.bks HP).symm
  rcases X with _ | ⟨x, _ | ⟨y, r⟩⟩
  . simp at h
  . exact ⟨x, rfl, by have h2 : x.bk = bk0 := by simpa using h
                      exact congrArg Bkd.time h2⟩
  . simp at h
 obtain ⟨x, rfl, ht⟩ := hX
 have hn : n = 1 := CO.b.len
 subst hn
 obtain ⟨b1, e1, _, _, r1⟩ := CO.b.at_ (i := 0) (by simp)
 subst e1
 have q1 : w5.cell? ⟨g + 1, 0, none⟩ = some (.int .i64 0) := cell_arr ((B45.out.block _ (gl kr.out)).trans kr.out) (by rw [ER.out]; rfl)
 have q2 : w5.cell? ⟨g, 0, none⟩ = some (.slice (some ⟨b1, 0, none⟩) 1 c) := cell_arr ((B45.out.block _ (gl kc.out)).trans kc.out) (by rw [EC]; rfl)
 have q30 : w3.cell? ⟨b1, 1, none⟩ = some (.int .i64 x.tm) := by simpa using r1 1 _ rfl
 have q3 : w5.cell? ⟨b1, 1, none⟩ = some (.int .i64 4) := by rw [<- ht]; exact (B45.out.cell (p := ⟨b1, 1, none⟩) (cell_lt q30)).trans q30
 have q4 : w5.cell? ⟨g4 + 1, 0, none⟩ = some (.int .i64 4) := cell_arr (by rw [<- Hg4.out]; exact K5.out.2.1) (by rw [ER2.out]; rfl)
 have FB := bt B23 B45
 clear q30 r1 CO HP Hw5 Z1 Z2 K5
 go_wp2
 go_ret
 exact ⟨rfl, FB.out⟩
end Go.Proofs.YtfabnnbljkkihaaGreatDoor
