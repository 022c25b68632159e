import Derived.Test.YtfabnnbljkkihaaGreatDoorMbp
import Derived.Test.YtfabnnbljkkihaaGreatDoorMb14
import Derived.Deep.QuietTactic
namespace Go.Proofs.YtfabnnbljkkihaaGreatDoor
open Go.ChangeShapes Go.WideShapes Go.ChangeAt Go.RowKit
set_option maxRecDepth 20000
set_option linter.unusedVariables false
set_option linter.unusedSimpArgs false
set_option maxHeartbeats 4000000 in
theorem insEB {w : World} {lo hi : Nat} {a : Option Addr} {n c vb : Nat} {X : List Bkx} {y : Bkx} (hA : Hid (Rw w lo hi 65 EBk a n c X)) (hlo : lo <= w.heap.size) (hn : n + 1 <= 1048576) (hv : Hid (w.heap[vb]? = some (.cells (EBk.e y).toArray 65 (0, 0)))) :
  Calls Tryz.prog 116 #[.slice a n c,.int .i64 n,.slice (some ⟨vb, 0, none⟩) 1 1] w fun e w' => ∃ a' c', e = .returned (.slice a' (n + 1) c') /\ Hid (Rw w' lo w'.heap.size 65 EBk a' (n + 1) c' (X ++ [y]) /\ Ch w w' (fun q => blkOf a = some q)) := by
 obtain ⟨a', c', w', r1, f1, f2⟩ := app_end hA.out hn hlo Tryz.underlying56 inf65 rfl (by decide) hv.out
 have HA : Hid ((Builtin.append_ #[56, 56] 56 #[.slice a n c,.slice (some ⟨vb, 0, none⟩) 1 1]).run Tryz.prog w = .ok (.slice a' (n + 1) c') w') := r1
 have F : Hid (Rw w' lo w'.heap.size 65 EBk a' (n + 1) c' (X ++ [y]) /\ Ch w w' (fun q => blkOf a = some q)) := ⟨f1, f2⟩
 have i1 : n <= c := hA.out.cap
 clear r1 f1 f2
 go_enter Tryz.func116, Tryz.ntmps116
 go_wp2_with (at_builtin; refine wpList_appt (by rfl) (.tmp 23) (.tmp 24) (by rfl) (by rfl) (by rfl) (by rfl) HA ?_)
 all_goals
  go_ret
  exact ⟨a', c', rfl, F.out⟩
set_option maxHeartbeats 8000000 in
theorem set_B {w : World} {lo hi : Nat} {a : Option Addr} {n : Nat} {X : List Bkx} {y : Bkx} {A : Array Value} (s : ByteArray) (hA : Hid (Rw w lo hi 65 EBk a n n X)) (hlo : lo <= w.heap.size) (hn : n + 1 <= 1048576) (hy : Hid (A = (EBk.e y).toArray)) :
  Calls Tryz.prog 91 #[.slice a n n,.string s, .func (.func 50) #[] #[], .agg A] w fun e w' => ∃ a' n' c', e = .returned (.slice a' n' c') /\ Hid (Rw w' lo w'.heap.size 65 EBk a' n' c' (setX (byN s) Bkx.bk X y) /\ Ch w w' (fun q => blkOf a = some q)) := by
 have LX : Hid (n = X.length) := hA.out.len
 have az : A.size = 5 := arr_sz hy.out
 have ai : (Tryz.prog.info? 65).map (·.size) = some A.size := by rw [az]; exact inz65
 have AA : Hid (A.all (·.oneCell') = true) := arr_all hy.out
 obtain ⟨w1, Hw1⟩ : ∃ w1, Hid (w.alloc (.cells A 65) = w1) := ⟨_, rfl⟩
 obtain ⟨g, Hg⟩ : ∃ g, Hid (w.heap.size = g) := ⟨_, rfl⟩
 have B1 : Hid (Below w.heap.size w w1) := by rw [<- Hw1.out]; exact alloc1 w _
 have k1 : Hid (w1.heap[g]? = some (.cells A 65 (0, 0))) := by
  rw [<- Hw1.out, <- Hg.out]
  exact heap_alloc_new w _
 have A1 : Hid (Rw w1 lo hi 65 EBk a n n X) := hA.out.below B1.out
 obtain ⟨p, Hp⟩ : ∃ p, Hid (plcB (byN s) (X.map Bkx.bk) = p) := ⟨_, rfl⟩
 have Hpd : Hid (plcB (byN s) (X.map Bkx.bk) = p) := by exact Hp.out
 have pn : p <= n := by rw [<- Hp.out, LX.out]; rw [<- List.length_map (f := Bkx.bk)]; exact plcB_le _ _
 have FD : Hid (Array.foldl (fun cs (x : Value × Nat) => cs.setIfInBounds x.snd x.fst) #[.string ⟨#[]⟩,.int .i64 0,.int .i64 0,.slice none 0 0,.slice none 0 0] A.zipIdx 0 5 = A) := fold65 hy.out
 go_enter Tryz.func91, Tryz.ntmps91
 go_upto_region 1 with (fail)
 rw [Hw1.out, Hg.out]
 clear Hw1
 by_cases hb : isB (byN s) (X.map Bkx.bk) = true
 . have HS : Hid (isB (byN s) (X.map Bkx.bk) = true) := hb
   have HSd : Hid (isB (byN s) (X.map Bkx.bk) = true) := by exact hb
   have pl : p < n := by rw [<- Hp.out, LX.out]; rw [<- List.length_map (f := Bkx.bk)]; exact isB_lt hb
   clear hb
   obtain ⟨b, rfl, _, _, _⟩ := A1.out.at_ (i := p) (by rw [<- LX.out]; exact pl)
   go_upto_region 4 with (go_at_call 49; refine (findB s A1 (by omega)).mono ?_; rintro e w2 ⟨rfl, H2⟩; rw [Hp.out, HS.out])
   clear pn
   have k2 : Hid (w2.heap[g]? = some (.cells A 65 (0, 0))) := (H2.out.block _ (gl k1.out)).trans k1.out
   have A2 : Hid (Rw w2 lo hi 65 EBk (some ⟨b, 0, none⟩) n n X) := A1.out.below H2.out
   have T2 : Hid (w2.there b (p * 5) A.size) := by rw [az]; exact A2.out.thereAt pl
   go_wp2_with (first
    | (refine wpList_load_row (by rfl) 65 (.tmp 7) (by rfl) (g) (by rfl) 65 A (0, 0) _ k2.out Tryz.underlying65 rfl ai ?_)
    | (refine wpList_store_mid (by rfl) 65 (.tmp 28) (.tmp 27) (by rfl) b (p * 5) A (by rfl) (by rfl) T2.out ai AA.out ?_))
   go_ret
   refine ⟨_, n, n, rfl, ?_, ?_⟩
   . unfold setX
     rw [if_pos HSd.out, Hpd.out]
     have e : A.toList = EBk.e y := by rw [hy.out]
     rw [e]
     exact (A2.out.setAt pl y).full
   . exact ((Ch.below B1.out).trans (Ch.below H2.out)).trans ((ch_setCells _ _ _).weak (fun q _ h => by rw [h]; rfl))
 . have HS : Hid (isB (byN s) (X.map Bkx.bk) = false) := Bool.eq_false_iff.2 hb
   have HSd : Hid (¬ isB (byN s) (X.map Bkx.bk) = true) := by exact hb
   clear hb
   go_upto_region 3 with (go_at_call 49; refine (findB s A1 (by omega)).mono ?_; rintro e w2 ⟨rfl, H2⟩; rw [Hp.out, HS.out])
   have k2 : Hid (w2.heap[g]? = some (.cells A 65 (0, 0))) := (H2.out.block _ (gl k1.out)).trans k1.out
   obtain ⟨gv, Hgv⟩ : ∃ g, Hid (w2.heap.size = g) := ⟨_, rfl⟩
   obtain ⟨w3, Hw3⟩ : ∃ W, Hid (w2.alloc (.cells A 65) = W) := ⟨_, rfl⟩
   have b3 : Hid (Below w2.heap.size w2 w3) := by rw [<- Hw3.out]; exact alloc1 w2 _
   have k3 : Hid (w3.heap[gv]? = some (.cells (EBk.e y).toArray 65 (0, 0))) := by rw [<- Hw3.out, <- Hgv.out, <- hy.out]; exact heap_alloc_new w2 _
   have B3 : Hid (Below w.heap.size w w3) := (B1.out.trans (H2.out.mono B1.out.size)).trans (b3.out.mono (Nat.le_trans B1.out.size H2.out.size))
   have A3 : Hid (Rw w3 lo hi 65 EBk a n n X) := hA.out.below B3.out
   have L3 : lo <= w3.heap.size := Nat.le_trans hlo B3.out.size
   have SX : Hid (setX (byN s) Bkx.bk X y = X.take p ++ y :: X.drop p) := by show _ = _; unfold setX; rw [if_neg HSd.out, Hpd.out]
   clear b3
   by_cases hpn : p < n
   . go_wp2_with (first
      | (refine wpList_load_row (by rfl) 65 (.tmp 7) (by rfl) (g) (by rfl) 65 A (0, 0) _ k2.out Tryz.underlying65 rfl ai ?_)
      | (go_at_call 116; rw [FD.out, Hw3.out, Hgv.out]; refine (insB A3 (by omega) hpn k3).mono ?_; rintro e w4 ⟨a', c', rfl, H4⟩))
     go_ret
     refine ⟨a', n + 1, c', rfl, ?_, (Ch.below B3.out).trans (Ch.below H4.out.2)⟩
     rw [SX.out]
     exact H4.out.1.mono L3 (Nat.le_refl _)
   . obtain rfl : p = n := by omega
     go_wp2_with (first
      | (refine wpList_load_row (by rfl) 65 (.tmp 7) (by rfl) (g) (by rfl) 65 A (0, 0) _ k2.out Tryz.underlying65 rfl ai ?_)
      | (go_at_call 116; rw [FD.out, Hw3.out, Hgv.out]; refine (insEB A3 L3 hn k3).mono ?_; rintro e w4 ⟨a', c', rfl, H4⟩))
     go_ret
     refine ⟨a', p + 1, c', rfl, ?_, (Ch.below B3.out).trans H4.out.2⟩
     rw [SX.out, List.take_of_length_le (by have := LX.out; omega), List.drop_of_length_le (by have := LX.out; omega)]
     exact H4.out.1
set_option maxHeartbeats 4000000 in
theorem insEO {w : World} {lo hi : Nat} {a : Option Addr} {n c vb : Nat} {X : List Obx} {y : Obx} (hA : Hid (Rw w lo hi 71 EOb a n c X)) (hlo : lo <= w.heap.size) (hn : n + 1 <= 1048576) (hv : Hid (w.heap[vb]? = some (.cells (EOb.e y).toArray 71 (0, 0)))) :
  Calls Tryz.prog 118 #[.slice a n c,.int .i64 n,.slice (some ⟨vb, 0, none⟩) 1 1] w fun e w' => ∃ a' c', e = .returned (.slice a' (n + 1) c') /\ Hid (Rw w' lo w'.heap.size 71 EOb a' (n + 1) c' (X ++ [y]) /\ Ch w w' (fun q => blkOf a = some q)) := by
 obtain ⟨a', c', w', r1, f1, f2⟩ := app_end hA.out hn hlo Tryz.underlying62 inf71 rfl (by decide) hv.out
 have HA : Hid ((Builtin.append_ #[62, 62] 62 #[.slice a n c,.slice (some ⟨vb, 0, none⟩) 1 1]).run Tryz.prog w = .ok (.slice a' (n + 1) c') w') := r1
 have F : Hid (Rw w' lo w'.heap.size 71 EOb a' (n + 1) c' (X ++ [y]) /\ Ch w w' (fun q => blkOf a = some q)) := ⟨f1, f2⟩
 have i1 : n <= c := hA.out.cap
 clear r1 f1 f2
 go_enter Tryz.func118, Tryz.ntmps118
 go_wp2_with (at_builtin; refine wpList_appt (by rfl) (.tmp 23) (.tmp 24) (by rfl) (by rfl) (by rfl) (by rfl) HA ?_)
 all_goals
  go_ret
  exact ⟨a', c', rfl, F.out⟩
set_option maxHeartbeats 8000000 in
theorem set_O {w : World} {lo hi : Nat} {a : Option Addr} {n : Nat} {X : List Obx} {y : Obx} {A : Array Value} (s : ByteArray) (hA : Hid (Rw w lo hi 71 EOb a n n X)) (hlo : lo <= w.heap.size) (hn : n + 1 <= 1048576) (hy : Hid (A = (EOb.e y).toArray)) :
  Calls Tryz.prog 96 #[.slice a n n,.string s, .func (.func 53) #[] #[], .agg A] w fun e w' => ∃ a' n' c', e = .returned (.slice a' n' c') /\ Hid (Rw w' lo w'.heap.size 71 EOb a' n' c' (setX (byK s) Obx.ob X y) /\ Ch w w' (fun q => blkOf a = some q)) := by
 have LX : Hid (n = X.length) := hA.out.len
 have az : A.size = 5 := arr_sz hy.out
 have ai : (Tryz.prog.info? 71).map (·.size) = some A.size := by rw [az]; exact inz71
 have AA : Hid (A.all (·.oneCell') = true) := arr_all hy.out
 obtain ⟨w1, Hw1⟩ : ∃ w1, Hid (w.alloc (.cells A 71) = w1) := ⟨_, rfl⟩
 obtain ⟨g, Hg⟩ : ∃ g, Hid (w.heap.size = g) := ⟨_, rfl⟩
 have B1 : Hid (Below w.heap.size w w1) := by rw [<- Hw1.out]; exact alloc1 w _
 have k1 : Hid (w1.heap[g]? = some (.cells A 71 (0, 0))) := by
  rw [<- Hw1.out, <- Hg.out]
  exact heap_alloc_new w _
 have A1 : Hid (Rw w1 lo hi 71 EOb a n n X) := hA.out.below B1.out
 obtain ⟨p, Hp⟩ : ∃ p, Hid (plcB (byK s) (X.map Obx.ob) = p) := ⟨_, rfl⟩
 have Hpd : Hid (plcB (byK s) (X.map Obx.ob) = p) := by exact Hp.out
 have pn : p <= n := by rw [<- Hp.out, LX.out]; rw [<- List.length_map (f := Obx.ob)]; exact plcB_le _ _
 have FD : Hid (Array.foldl (fun cs (x : Value × Nat) => cs.setIfInBounds x.snd x.fst) #[.string ⟨#[]⟩,.int .i64 0,.string ⟨#[]⟩,.int .i64 0,.slice none 0 0] A.zipIdx 0 5 = A) := fold71 hy.out
 go_enter Tryz.func96, Tryz.ntmps96
 go_upto_region 1 with (fail)
 rw [Hw1.out, Hg.out]
 clear Hw1
 by_cases hb : isB (byK s) (X.map Obx.ob) = true
 . have HS : Hid (isB (byK s) (X.map Obx.ob) = true) := hb
   have HSd : Hid (isB (byK s) (X.map Obx.ob) = true) := by exact hb
   have pl : p < n := by rw [<- Hp.out, LX.out]; rw [<- List.length_map (f := Obx.ob)]; exact isB_lt hb
   clear hb
   obtain ⟨b, rfl, _, _, _⟩ := A1.out.at_ (i := p) (by rw [<- LX.out]; exact pl)
   go_upto_region 4 with (go_at_call 52; refine (findO s A1 (by omega)).mono ?_; rintro e w2 ⟨rfl, H2⟩; rw [Hp.out, HS.out])
   clear pn
   have k2 : Hid (w2.heap[g]? = some (.cells A 71 (0, 0))) := (H2.out.block _ (gl k1.out)).trans k1.out
   have A2 : Hid (Rw w2 lo hi 71 EOb (some ⟨b, 0, none⟩) n n X) := A1.out.below H2.out
   have T2 : Hid (w2.there b (p * 5) A.size) := by rw [az]; exact A2.out.thereAt pl
   go_wp2_with (first
    | (refine wpList_load_row (by rfl) 71 (.tmp 7) (by rfl) (g) (by rfl) 71 A (0, 0) _ k2.out Tryz.underlying71 rfl ai ?_)
    | (refine wpList_store_mid (by rfl) 71 (.tmp 28) (.tmp 27) (by rfl) b (p * 5) A (by rfl) (by rfl) T2.out ai AA.out ?_))
   go_ret
   refine ⟨_, n, n, rfl, ?_, ?_⟩
   . unfold setX
     rw [if_pos HSd.out, Hpd.out]
     have e : A.toList = EOb.e y := by rw [hy.out]
     rw [e]
     exact (A2.out.setAt pl y).full
   . exact ((Ch.below B1.out).trans (Ch.below H2.out)).trans ((ch_setCells _ _ _).weak (fun q _ h => by rw [h]; rfl))
 . have HS : Hid (isB (byK s) (X.map Obx.ob) = false) := Bool.eq_false_iff.2 hb
   have HSd : Hid (¬ isB (byK s) (X.map Obx.ob) = true) := by exact hb
   clear hb
   go_upto_region 3 with (go_at_call 52; refine (findO s A1 (by omega)).mono ?_; rintro e w2 ⟨rfl, H2⟩; rw [Hp.out, HS.out])
   have k2 : Hid (w2.heap[g]? = some (.cells A 71 (0, 0))) := (H2.out.block _ (gl k1.out)).trans k1.out
   obtain ⟨gv, Hgv⟩ : ∃ g, Hid (w2.heap.size = g) := ⟨_, rfl⟩
   obtain ⟨w3, Hw3⟩ : ∃ W, Hid (w2.alloc (.cells A 71) = W) := ⟨_, rfl⟩
   have b3 : Hid (Below w2.heap.size w2 w3) := by rw [<- Hw3.out]; exact alloc1 w2 _
   have k3 : Hid (w3.heap[gv]? = some (.cells (EOb.e y).toArray 71 (0, 0))) := by rw [<- Hw3.out, <- Hgv.out, <- hy.out]; exact heap_alloc_new w2 _
   have B3 : Hid (Below w.heap.size w w3) := (B1.out.trans (H2.out.mono B1.out.size)).trans (b3.out.mono (Nat.le_trans B1.out.size H2.out.size))
   have A3 : Hid (Rw w3 lo hi 71 EOb a n n X) := hA.out.below B3.out
   have L3 : lo <= w3.heap.size := Nat.le_trans hlo B3.out.size
   have SX : Hid (setX (byK s) Obx.ob X y = X.take p ++ y :: X.drop p) := by show _ = _; unfold setX; rw [if_neg HSd.out, Hpd.out]
   clear b3
   by_cases hpn : p < n
   . go_wp2_with (first
      | (refine wpList_load_row (by rfl) 71 (.tmp 7) (by rfl) (g) (by rfl) 71 A (0, 0) _ k2.out Tryz.underlying71 rfl ai ?_)
      | (go_at_call 118; rw [FD.out, Hw3.out, Hgv.out]; refine (insO A3 (by omega) hpn k3).mono ?_; rintro e w4 ⟨a', c', rfl, H4⟩))
     go_ret
     refine ⟨a', n + 1, c', rfl, ?_, (Ch.below B3.out).trans (Ch.below H4.out.2)⟩
     rw [SX.out]
     exact H4.out.1.mono L3 (Nat.le_refl _)
   . obtain rfl : p = n := by omega
     go_wp2_with (first
      | (refine wpList_load_row (by rfl) 71 (.tmp 7) (by rfl) (g) (by rfl) 71 A (0, 0) _ k2.out Tryz.underlying71 rfl ai ?_)
      | (go_at_call 118; rw [FD.out, Hw3.out, Hgv.out]; refine (insEO A3 L3 hn k3).mono ?_; rintro e w4 ⟨a', c', rfl, H4⟩))
     go_ret
     refine ⟨a', p + 1, c', rfl, ?_, (Ch.below B3.out).trans H4.out.2⟩
     rw [SX.out, List.take_of_length_le (by have := LX.out; omega), List.drop_of_length_le (by have := LX.out; omega)]
     exact H4.out.1
set_option maxHeartbeats 4000000 in
theorem insEP {w : World} {lo hi : Nat} {a : Option Addr} {n c vb : Nat} {X : List Ptd} {y : Ptd} (hA : Hid (Rw w lo hi 108 EPt a n c X)) (hlo : lo <= w.heap.size) (hn : n + 1 <= 1048576) (hv : Hid (w.heap[vb]? = some (.cells (EPt.e y).toArray 108 (0, 0)))) :
  Calls Tryz.prog 123 #[.slice a n c,.int .i64 n,.slice (some ⟨vb, 0, none⟩) 1 1] w fun e w' => ∃ a' c', e = .returned (.slice a' (n + 1) c') /\ Hid (Rw w' lo w'.heap.size 108 EPt a' (n + 1) c' (X ++ [y]) /\ Ch w w' (fun q => blkOf a = some q)) := by
 obtain ⟨a', c', w', r1, f1, f2⟩ := app_end hA.out hn hlo Tryz.underlying75 inf108 rfl (by decide) hv.out
 have HA : Hid ((Builtin.append_ #[75, 75] 75 #[.slice a n c,.slice (some ⟨vb, 0, none⟩) 1 1]).run Tryz.prog w = .ok (.slice a' (n + 1) c') w') := r1
 have F : Hid (Rw w' lo w'.heap.size 108 EPt a' (n + 1) c' (X ++ [y]) /\ Ch w w' (fun q => blkOf a = some q)) := ⟨f1, f2⟩
 have i1 : n <= c := hA.out.cap
 clear r1 f1 f2
 go_enter Tryz.func123, Tryz.ntmps123
 go_wp2_with (at_builtin; refine wpList_appt (by rfl) (.tmp 23) (.tmp 24) (by rfl) (by rfl) (by rfl) (by rfl) HA ?_)
 all_goals
  go_ret
  exact ⟨a', c', rfl, F.out⟩
set_option maxHeartbeats 8000000 in
theorem set_P {w : World} {lo hi : Nat} {a : Option Addr} {n : Nat} {X : List Ptd} {y : Ptd} {A : Array Value} (m : Int) (hA : Hid (Rw w lo hi 108 EPt a n n X)) (hlo : lo <= w.heap.size) (hn : n + 1 <= 1048576) (hy : Hid (A = (EPt.e y).toArray)) :
  Calls Tryz.prog 102 #[.slice a n n,.int .i64 m, .func (.func 103) #[] #[], .agg A] w fun e w' => ∃ a' n' c', e = .returned (.slice a' n' c') /\ Hid (Rw w' lo w'.heap.size 108 EPt a' n' c' (setX (byP m) id X y) /\ Ch w w' (fun q => blkOf a = some q)) := by
 have LX : Hid (n = X.length) := hA.out.len
 have az : A.size = 6 := arr_sz hy.out
 have ai : (Tryz.prog.info? 108).map (·.size) = some A.size := by rw [az]; exact inz108
 have AA : Hid (A.all (·.oneCell') = true) := arr_all hy.out
 obtain ⟨w1, Hw1⟩ : ∃ w1, Hid (w.alloc (.cells A 108) = w1) := ⟨_, rfl⟩
 obtain ⟨g, Hg⟩ : ∃ g, Hid (w.heap.size = g) := ⟨_, rfl⟩
 have B1 : Hid (Below w.heap.size w w1) := by rw [<- Hw1.out]; exact alloc1 w _
 have k1 : Hid (w1.heap[g]? = some (.cells A 108 (0, 0))) := by
  rw [<- Hw1.out, <- Hg.out]
  exact heap_alloc_new w _
 have A1 : Hid (Rw w1 lo hi 108 EPt a n n X) := hA.out.below B1.out
 obtain ⟨p, Hp⟩ : ∃ p, Hid (plcB (byP m) X = p) := ⟨_, rfl⟩
 have Hpd : Hid (plcB (byP m) (X.map id) = p) := by rw [List.map_id]; exact Hp.out
 have pn : p <= n := by rw [<- Hp.out, LX.out]; exact plcB_le _ _
 have FD : Hid (Array.foldl (fun cs (x : Value × Nat) => cs.setIfInBounds x.snd x.fst) #[.int .i64 0,.int .i64 0,.int .i64 0,.int .i64 0,.int .i64 0,.string ⟨#[]⟩] A.zipIdx 0 6 = A) := fold108 hy.out
 go_enter Tryz.func102, Tryz.ntmps102
 go_upto_region 1 with (fail)
 rw [Hw1.out, Hg.out]
 clear Hw1
 by_cases hb : isB (byP m) X = true
 . have HS : Hid (isB (byP m) X = true) := hb
   have HSd : Hid (isB (byP m) (X.map id) = true) := by rw [List.map_id]; exact hb
   have pl : p < n := by rw [<- Hp.out, LX.out]; exact isB_lt hb
   clear hb
   obtain ⟨b, rfl, _, _, _⟩ := A1.out.at_ (i := p) (by rw [<- LX.out]; exact pl)
   go_upto_region 4 with (go_at_call 122; refine (findP m A1 (by omega)).mono ?_; rintro e w2 ⟨rfl, H2⟩; rw [Hp.out, HS.out])
   clear pn
   have k2 : Hid (w2.heap[g]? = some (.cells A 108 (0, 0))) := (H2.out.block _ (gl k1.out)).trans k1.out
   have A2 : Hid (Rw w2 lo hi 108 EPt (some ⟨b, 0, none⟩) n n X) := A1.out.below H2.out
   have T2 : Hid (w2.there b (p * 6) A.size) := by rw [az]; exact A2.out.thereAt pl
   go_wp2_with (first
    | (refine wpList_load_row (by rfl) 108 (.tmp 7) (by rfl) (g) (by rfl) 108 A (0, 0) _ k2.out Tryz.underlying108 rfl ai ?_)
    | (refine wpList_store_mid (by rfl) 108 (.tmp 28) (.tmp 27) (by rfl) b (p * 6) A (by rfl) (by rfl) T2.out ai AA.out ?_))
   go_ret
   refine ⟨_, n, n, rfl, ?_, ?_⟩
   . unfold setX
     rw [if_pos HSd.out, Hpd.out]
     have e : A.toList = EPt.e y := by rw [hy.out]
     rw [e]
     exact (A2.out.setAt pl y).full
   . exact ((Ch.below B1.out).trans (Ch.below H2.out)).trans ((ch_setCells _ _ _).weak (fun q _ h => by rw [h]; rfl))
 . have HS : Hid (isB (byP m) X = false) := Bool.eq_false_iff.2 hb
   have HSd : Hid (¬ isB (byP m) (X.map id) = true) := by rw [List.map_id]; exact hb
   clear hb
   go_upto_region 3 with (go_at_call 122; refine (findP m A1 (by omega)).mono ?_; rintro e w2 ⟨rfl, H2⟩; rw [Hp.out, HS.out])
   have k2 : Hid (w2.heap[g]? = some (.cells A 108 (0, 0))) := (H2.out.block _ (gl k1.out)).trans k1.out
   obtain ⟨gv, Hgv⟩ : ∃ g, Hid (w2.heap.size = g) := ⟨_, rfl⟩
   obtain ⟨w3, Hw3⟩ : ∃ W, Hid (w2.alloc (.cells A 108) = W) := ⟨_, rfl⟩
   have b3 : Hid (Below w2.heap.size w2 w3) := by rw [<- Hw3.out]; exact alloc1 w2 _
   have k3 : Hid (w3.heap[gv]? = some (.cells (EPt.e y).toArray 108 (0, 0))) := by rw [<- Hw3.out, <- Hgv.out, <- hy.out]; exact heap_alloc_new w2 _
   have B3 : Hid (Below w.heap.size w w3) := (B1.out.trans (H2.out.mono B1.out.size)).trans (b3.out.mono (Nat.le_trans B1.out.size H2.out.size))
   have A3 : Hid (Rw w3 lo hi 108 EPt a n n X) := hA.out.below B3.out
   have L3 : lo <= w3.heap.size := Nat.le_trans hlo B3.out.size
   have SX : Hid (setX (byP m) id X y = X.take p ++ y :: X.drop p) := by show _ = _; unfold setX; rw [if_neg HSd.out, Hpd.out]
   clear b3
   by_cases hpn : p < n
   . go_wp2_with (first
      | (refine wpList_load_row (by rfl) 108 (.tmp 7) (by rfl) (g) (by rfl) 108 A (0, 0) _ k2.out Tryz.underlying108 rfl ai ?_)
      | (go_at_call 123; rw [FD.out, Hw3.out, Hgv.out]; refine (insP A3 (by omega) hpn k3).mono ?_; rintro e w4 ⟨a', c', rfl, H4⟩))
     go_ret
     refine ⟨a', n + 1, c', rfl, ?_, (Ch.below B3.out).trans (Ch.below H4.out.2)⟩
     rw [SX.out]
     exact H4.out.1.mono L3 (Nat.le_refl _)
   . obtain rfl : p = n := by omega
     go_wp2_with (first
      | (refine wpList_load_row (by rfl) 108 (.tmp 7) (by rfl) (g) (by rfl) 108 A (0, 0) _ k2.out Tryz.underlying108 rfl ai ?_)
      | (go_at_call 123; rw [FD.out, Hw3.out, Hgv.out]; refine (insEP A3 L3 hn k3).mono ?_; rintro e w4 ⟨a', c', rfl, H4⟩))
     go_ret
     refine ⟨a', p + 1, c', rfl, ?_, (Ch.below B3.out).trans H4.out.2⟩
     rw [SX.out, List.take_of_length_le (by have := LX.out; omega), List.drop_of_length_le (by have := LX.out; omega)]
     exact H4.out.1
theorem wp_app3 {op : Oper} {a : Act} {K : Act -> World -> Prop} {Q : Exit -> Act -> World -> Prop} {w w' : World} {v v1 v2 : Value} {t : TypeId} (s x : Operand)
  (ho : op.op = .call { callee := .builtin .append, args := #[s, x], argTypes := #[t, t] }) (hty : op.type = t) (hs : a.eval s = v1) (hx : a.eval x = v2) (hrun : Hid ((Builtin.append_ #[t, t] t #[v1, v2]).run Tryz.prog w = .ok v w'))
  (h : K (a.put op.dst v) w') : Oper.wp Tryz.prog op a w K Q := by
 have hr := hrun.out
 unfold Oper.wp
 simp [execOp, ho, resolve, invoke, builtin, hs, hx, hty, hr, Result.andThen]
 exact h
section
variable {α : Type} {E : Enc α} {w : World} {lo hi : Nat} {t s : TypeId} {b n p : Nat} {l : List α} {Z : Value} {B : Nat}
theorem Rw.pre (h : Rw w lo hi t E (some ⟨b, 0, none⟩) n n l) (hp : p <= n) : Rw w lo hi t E (some ⟨b, 0, none⟩) p n (l.take p) := by
 have hl := h.len
 refine ⟨?_, h.top, h.pos⟩
 rcases h.row with ⟨h0, ⟨h1, _⟩ | ⟨q, cap, cur, h1, h2, h3, h4, h5, h6, h7⟩⟩
 . cases h1
 . cases h1
   refine ⟨by rw [E.fl_len, List.length_take, Nat.min_eq_left (by omega)], .inr ⟨b, n, cur, rfl, h2, h3, hp, h5, h6, ?_⟩⟩
   rw [E.fl_take, <- h7, List.take_take, Nat.min_eq_left (Nat.mul_le_mul_right _ hp)]
theorem del_steps (h : Rw w lo hi t E (some ⟨b, 0, none⟩) n n l) (hp : p < n) (hu : Tryz.prog.underlying s = some (.slice t)) (hinf : (Tryz.prog.info? t).map (fun i => (i.zero, i.size, i.bytes)) = some (some Z, E.z, B)) (hZ : Z.cells.size = E.z) (hZ1 : (Builtin.zeroCells Z.cells 1).toList.all (·.oneCell') = true) :
  ∃ w1 w2, (∀ sa sC, (p + 1 < n -> sa = ⟨b, (p + 1) * E.z, none⟩) -> (Builtin.append_ #[s, s] s #[.slice (some ⟨b, 0, none⟩) p n,.slice (some sa) (n - (p + 1)) sC]).run Tryz.prog w.drew = .ok (.slice (some ⟨b, 0, none⟩) (n - 1) n) w1) ∧
   (∀ ty cC, (Builtin.clear_ #[s] ty #[.slice (some ⟨b, (n - 1) * E.z, none⟩) 1 cC]).run Tryz.prog w1 = .ok (.tuple #[]) w2) ∧
   Rw w2 lo hi t E (some ⟨b, 0, none⟩) (n - 1) n (l.eraseIdx p) /\ Ch w w2 (fun q => q = b) := by
 have hl := h.len
 obtain ⟨inf, hi1, hz0, hz1, hz2⟩ := info_parts hinf
 have hd : Rw w.drew lo hi t E (some ⟨b, 0, none⟩) n n l := h.keep (fun q _ _ _ => rfl)
 have hpre := hd.pre (p := p) (by omega)
 have hld : (E.fl (l.drop (p + 1))).length = (n - (p + 1)) * E.z := by rw [E.fl_len, List.length_drop, hl]
 have hnews : ∀ sa : Addr, (p + 1 < n -> sa = ⟨b, (p + 1) * E.z, none⟩) -> ∀ j u, (E.fl (l.drop (p + 1)))[j]? = some u -> w.drew.cell? (sa.add j) = some u := fun sa hsa j u hj => by
  have hj2 := (List.getElem?_eq_some_iff.1 hj).1
  rw [hld] at hj2
  have hlt : p + 1 < n := by
   rcases Nat.lt_or_ge (p + 1) n with h1 | h1
   . exact h1
   . rw [Nat.sub_eq_zero_of_le h1, Nat.zero_mul] at hj2; omega
  rw [hsa hlt, Addr.add_mid]
  rw [E.fl_drop, List.getElem?_drop] at hj
  have hjl := (List.getElem?_eq_some_iff.1 hj).1
  rw [E.fl_len, <- hl] at hjl
  rw [hd.row.cellAt _ hjl]; exact hj
 obtain ⟨w1, r1, r2, r3⟩ := run_append_fits (P := Tryz.prog) (w := w.drew) lo s s t inf E.z hu hi1 hz1 b p n (E.fl (l.take p)) hpre.row ⟨b, (p + 1) * E.z, none⟩ (n - (p + 1)) 0 (E.fl (l.drop (p + 1))) hld (hnews _ (fun _ => rfl)) (E.fl_oc _) (by omega)
 have en : p + (n - (p + 1)) = n - 1 := by omega
 have hall : ∀ sa sC, (p + 1 < n -> sa = ⟨b, (p + 1) * E.z, none⟩) -> (Builtin.append_ #[s, s] s #[.slice (some ⟨b, 0, none⟩) p n,.slice (some sa) (n - (p + 1)) sC]).run Tryz.prog w.drew = .ok (.slice (some ⟨b, 0, none⟩) (n - 1) n) w1 := by
  rcases hpre.row.2 with ⟨k1, _⟩ | ⟨q, cap, cur, k1, k2, k3, k4, k5, k6, k7⟩
  . cases k1
  . cases k1
    have hfit : p * inf.size + (E.fl (l.drop (p + 1))).length <= cur.size := by rw [hld, hz1, k6, <- Nat.add_mul]; exact Nat.mul_le_mul_right _ (by omega)
    have hr : ∀ sa sC, (p + 1 < n -> sa = ⟨b, (p + 1) * E.z, none⟩) -> (Builtin.append_ #[s, s] s #[.slice (some ⟨b, 0, none⟩) p n,.slice (some sa) (n - (p + 1)) sC]).run Tryz.prog w.drew = .ok (.slice (some ⟨b, 0, none⟩) (p + (n - (p + 1))) n) (w.drew.setRow b (cur.toList.take (p * inf.size) ++ E.fl (l.drop (p + 1)) ++ cur.toList.drop (p * inf.size + (E.fl (l.drop (p + 1))).length)).toArray) := fun sa sC hsa => run_append_room (P := Tryz.prog) w.drew s s t inf hu hi1 b p n cur k3 sa (n - (p + 1)) sC (E.fl (l.drop (p + 1))) (by rw [hz1]; exact hld) (hnews sa hsa) (E.fl_oc _) (by omega) hfit
    intro sa sC hsa
    rw [hr sa sC hsa, <- en]
    have h9 := (hr ⟨b, (p + 1) * E.z, none⟩ 0 (fun _ => rfl)).symm.trans r1
    exact h9
 rw [en] at r1 r2
 have efl : E.fl (l.take p) ++ E.fl (l.drop (p + 1)) = E.fl (l.eraseIdx p) := by rw [<- E.fl_app, List.eraseIdx_eq_take_drop_succ]
 rw [efl] at r2
 have c1 : Ch w w1 (fun q => q = b) := by
  have hb := grown_below r3 (Nat.zero_le _) (fun q _ => Nat.zero_le _)
  exact (Ch.drew w _).trans ⟨hb.os, hb.tape, hb.output, hb.size, fun k hk hn => r3.block k hk (fun e => hn (by cases e; rfl))⟩
 rcases r2.2 with ⟨h1, _⟩ | ⟨q, cap, cur, h1, h2, h3, h4, h5, h6, h7⟩
 . cases h1
 . cases h1
   have ze : (n - 1) * E.z + E.z = n * E.z := by rw [<- Nat.succ_mul]; congr 1; omega
   have zl : (Builtin.zeroCells Z.cells 1).toList.length = E.z := by rw [Array.length_toList, zeros_size, hZ, Nat.one_mul]
   have hst := run_storeCells_at Tryz.prog b ((n - 1) * E.z) t (Builtin.zeroCells Z.cells 1).toList 0 cur w1 h3 (by rw [zl, h6]; omega) (fun v hv => List.all_eq_true.1 hZ1 v hv)
   refine ⟨w1, w1.setRow b (cur.toList.take ((n - 1) * E.z + 0) ++ (Builtin.zeroCells Z.cells 1).toList ++ cur.toList.drop ((n - 1) * E.z + 0 + (Builtin.zeroCells Z.cells 1).toList.length)).toArray, fun sa sC hsa => ?_, fun ty cC => ?_, ?_, ?_⟩
   . exact hall sa sC hsa
   . simp [Builtin.clear_, run_underlying hu, zeroValue, typeInfo, hi1, hz0, hst]
   . refine ⟨⟨?_, .inr ⟨b, n, _, rfl, h2, setRow_heap _ _ _ _ _ _ h3, by omega, h5, ?_, ?_⟩⟩, h.top, h.pos⟩
     . rw [E.fl_len, List.length_eraseIdx, if_pos (by omega), hl]
     . simp only [Nat.add_zero, List.size_toArray, List.length_append, List.length_take, List.length_drop, Array.length_toList, h6, zl]
       rw [Nat.min_eq_left (by omega)]
       omega
     . rw [Nat.add_zero]
       show ((cur.toList.take ((n - 1) * E.z) ++ _ ++ _) : List Value).take ((n - 1) * E.z) = _
       rw [List.append_assoc, List.take_left' (by rw [List.length_take, Array.length_toList, h6, Nat.min_eq_left (by omega)])]
       exact h7
   . exact c1.trans ⟨rfl, rfl, rfl, by rw [setRow_size]; exact Nat.le_refl _, fun k hk hn => setRow_other _ _ _ _ hn⟩
end
set_option maxHeartbeats 8000000 in
theorem del_B {w : World} {lo hi b n p : Nat} {X : List Bkx} (hA : Hid (Rw w lo hi 65 EBk (some ⟨b, 0, none⟩) n n X)) (hn : n <= 1048576) (hp : p < n) :
  Calls Tryz.prog 117 #[.slice (some ⟨b, 0, none⟩) n n,.int .i64 p,.int .i64 ((p : Int) + 1)] w fun e w' => e = .returned (.slice (some ⟨b, 0, none⟩) (n - 1) n) /\ Hid (Rw w' lo hi 65 EBk (some ⟨b, 0, none⟩) (n - 1) n (X.eraseIdx p) /\ Ch w w' (fun q => q = b)) := by
 obtain ⟨w1, w2, r1, r2, f1, f2⟩ := del_steps hA.out hp Tryz.underlying56 inf65 rfl (by kernel_rfl)
 have F : Hid (Rw w2 lo hi 65 EBk (some ⟨b, 0, none⟩) (n - 1) n (X.eraseIdx p) /\ Ch w w2 (fun q => q = b)) := ⟨f1, f2⟩
 clear f1 f2
 have i1 : (p : Int) < (n : Int) := by omega
 have i2 : p + 1 <= n := by omega
 have i3 : (0 : Int) <= (p : Int) + 1 := by omega
 have i4 : ¬ ((p : Int) = (p : Int) + 1) := by omega
 have i5 : n - 1 <= n := by omega
 have i6 : ¬ (n = n - 1) := by omega
 have i7 : p <= n := by omega
 have i8 : ¬ ((n : Int) < (p : Int) + 1) := by omega
 have i11 : (p : Int) + 1 <= (n : Int) := by omega
 have wq : IntKind.i64.wrap ((p : Int) + 1) = (p : Int) + 1 := by rw [IntKind.wrap_i64]; omega
 go_enter Tryz.func117, Tryz.ntmps117
 by_cases hl : p + 1 < n
 . skip
   have HA : Hid ((Builtin.append_ #[56, 56] 56 #[.slice (some ⟨b, 0, none⟩) p n,.slice (some ⟨b, (p + 1) * 5, none⟩) (n - (p + 1)) (n - (p + 1))]).run Tryz.prog w.drew = .ok (.slice (some ⟨b, 0, none⟩) (n - 1) n) w1) := by
    have h9 := r1 ⟨b, (p + 1) * 5, none⟩ (n - (p + 1)) (fun _ => rfl)
    exact h9
   have cl : (Builtin.clear_ #[56] 0 #[.slice (some ⟨b, (n - 1) * 5, none⟩) (n - (n - 1)) (n - (n - 1))]).run Tryz.prog w1 = .ok (.tuple #[]) w2 := by rw [show n - (n - 1) = 1 by omega]; exact r2 0 1
   have i9 : ¬ (n = p + 1) := by omega
   go_upto_region 5 with (fail)
   refine wp_region_till (S := fun L W => True) (by kernel_rfl) trivial (fun hS => ?_)
   refine tkg (i := 0) (v := .slice (some ⟨b, 0, none⟩) n n) rfl hS (fun hSb => ?_)
   simp only [pA,pB,pC,Act.put,pD,pE,pF]
   clear hS
   refine tkg (i := 1) (v := .int .i64 (p : Int)) rfl hSb (fun hS => ?_)
   simp only [pA,pB,pC,Act.put,pD,pE,pF]
   clear hSb
   refine tkg (i := 2) (v := .slice (some ⟨b, 0, none⟩) p n) rfl hS (fun hSb => ?_)
   simp only [pA,pB,pC,Act.put,pD,pE,pF]
   clear hS
   refine tkg (i := 3) (v := .slice (some ⟨b, 0, none⟩) n n) rfl hSb (fun hS => ?_)
   simp only [pA,pB,pC,Act.put,pD,pE,pF]
   clear hSb
   refine tkg (i := 4) (v := .int .i64 ((p : Int) + 1)) rfl hS (fun hSb => ?_)
   simp only [pA,pB,pC,Act.put,pD,pE,pF]
   clear hS
   refine tkg (i := 5) (v := .slice (some ⟨b, (p + 1) * 5, none⟩) (n - (p + 1)) (n - (p + 1))) rfl hSb (fun hS => ?_)
   simp only [pA,pB,pC,Act.put,pD,pE,pF]
   clear hSb
   refine till_one (i := 6) (by kernel_rfl) rfl (fun K hK => ?_)
   simp only [pA,pB,pC]
   rw [if_pos (by rfl)]
   refine wp_app3 (.tmp 22) (.tmp 25) (by rfl) (by rfl) (by rfl) (by rfl) HA ?_
   refine hK.out _ _ (trivial) (fun hSb => ?_)
   clear hK K
   try simp only [pA,pB,pC,Act.put,pD,pE,pF]
   clear hS
   refine tkg (i := 7) (v := .slice (some ⟨b, 0, none⟩) (n - 1) n) rfl hSb (fun hS => ?_)
   simp only [pA,pB,pC,Act.put,pD,pE,pF]
   clear hSb
   refine till_done (by kernel_rfl) ?_ _
   clear hS
   show (Exit.then _ _) .normal _ _
   go_wp2
   go_ret
   exact ⟨rfl, F.out⟩
 . skip
   have HA : Hid ((Builtin.append_ #[56, 56] 56 #[.slice (some ⟨b, 0, none⟩) p n,.slice (some ⟨b, 0, none⟩) (n - (p + 1)) (n - (p + 1))]).run Tryz.prog w.drew = .ok (.slice (some ⟨b, 0, none⟩) (n - 1) n) w1) := by
    have h9 := r1 ⟨b, 0, none⟩ (n - (p + 1)) (fun h => by omega)
    exact h9
   have cl : (Builtin.clear_ #[56] 0 #[.slice (some ⟨b, (n - 1) * 5, none⟩) (n - (n - 1)) (n - (n - 1))]).run Tryz.prog w1 = .ok (.tuple #[]) w2 := by rw [show n - (n - 1) = 1 by omega]; exact r2 0 1
   have i9 : (n = p + 1) = True := eq_true (by omega)
   go_upto_region 5 with (fail)
   refine wp_region_till (S := fun L W => True) (by kernel_rfl) trivial (fun hS => ?_)
   refine tkg (i := 0) (v := .slice (some ⟨b, 0, none⟩) n n) rfl hS (fun hSb => ?_)
   simp only [pA,pB,pC,Act.put,pD,pE,pF]
   clear hS
   refine tkg (i := 1) (v := .int .i64 (p : Int)) rfl hSb (fun hS => ?_)
   simp only [pA,pB,pC,Act.put,pD,pE,pF]
   clear hSb
   refine tkg (i := 2) (v := .slice (some ⟨b, 0, none⟩) p n) rfl hS (fun hSb => ?_)
   simp only [pA,pB,pC,Act.put,pD,pE,pF]
   clear hS
   refine tkg (i := 3) (v := .slice (some ⟨b, 0, none⟩) n n) rfl hSb (fun hS => ?_)
   simp only [pA,pB,pC,Act.put,pD,pE,pF]
   clear hSb
   refine tkg (i := 4) (v := .int .i64 ((p : Int) + 1)) rfl hS (fun hSb => ?_)
   simp only [pA,pB,pC,Act.put,pD,pE,pF]
   clear hS
   refine tkg (i := 5) (v := .slice (some ⟨b, 0, none⟩) (n - (p + 1)) (n - (p + 1))) rfl hSb (fun hS => ?_)
   simp only [pA,pB,pC,Act.put,pD,pE,pF]
   clear hSb
   refine till_one (i := 6) (by kernel_rfl) rfl (fun K hK => ?_)
   simp only [pA,pB,pC]
   rw [if_pos (by rfl)]
   refine wp_app3 (.tmp 22) (.tmp 25) (by rfl) (by rfl) (by rfl) (by rfl) HA ?_
   refine hK.out _ _ (trivial) (fun hSb => ?_)
   clear hK K
   try simp only [pA,pB,pC,Act.put,pD,pE,pF]
   clear hS
   refine tkg (i := 7) (v := .slice (some ⟨b, 0, none⟩) (n - 1) n) rfl hSb (fun hS => ?_)
   simp only [pA,pB,pC,Act.put,pD,pE,pF]
   clear hSb
   refine till_done (by kernel_rfl) ?_ _
   clear hS
   show (Exit.then _ _) .normal _ _
   go_wp2
   go_ret
   exact ⟨rfl, F.out⟩
set_option maxHeartbeats 8000000 in
theorem out_B {w : World} {lo hi : Nat} {a : Option Addr} {n : Nat} {X : List Bkx} (s : ByteArray) (hA : Hid (Rw w lo hi 65 EBk a n n X)) (hn : n <= 1048576) :
  Calls Tryz.prog 94 #[.slice a n n,.string s, .func (.func 50) #[] #[]] w fun e w' => ∃ n', e = .returned (.slice a n' n) /\ Hid (Rw w' lo hi 65 EBk a n' n (outX (byN s) Bkx.bk X) /\ Ch w w' (fun q => blkOf a = some q)) := by
 have LX : Hid (n = X.length) := hA.out.len
 obtain ⟨w1, Hw1⟩ : ∃ w1, Hid (w = w1) := ⟨_, rfl⟩
 have B1 : Hid (Below w.heap.size w w1) := by rw [<- Hw1.out]; exact Below.refl _ _
 have A1 : Hid (Rw w1 lo hi 65 EBk a n n X) := hA.out.below B1.out
 obtain ⟨p, Hp⟩ : ∃ p, Hid (plcB (byN s) (X.map Bkx.bk) = p) := ⟨_, rfl⟩
 go_enter Tryz.func94, Tryz.ntmps94
 go_upto_region 1 with (fail)
 rw [Hw1.out]
 by_cases hb : isB (byN s) (X.map Bkx.bk) = true
 . have HS : Hid (isB (byN s) (X.map Bkx.bk) = true) := hb
   have pl : p < n := by rw [<- Hp.out, LX.out]; rw [<- List.length_map (f := Bkx.bk)]; exact isB_lt hb
   clear hb
   obtain ⟨b, rfl, _, _, _⟩ := A1.out.at_ (i := p) (by rw [<- LX.out]; exact pl)
   go_upto_region 4 with (go_at_call 49; refine (findB s A1 (by omega)).mono ?_; rintro e w2 ⟨rfl, H2⟩; rw [Hp.out, HS.out])
   have A2 : Hid (Rw w2 lo hi 65 EBk (some ⟨b, 0, none⟩) n n X) := A1.out.below H2.out
   go_wp2_with (go_at_call 117; refine (del_B A2 hn pl).mono ?_; rintro e w3 ⟨rfl, H3⟩)
   go_ret
   refine ⟨n - 1, rfl, ?_, ((Ch.below B1.out).trans (Ch.below H2.out)).trans (H3.out.2.weak (fun q _ h => by rw [h]; rfl))⟩
   unfold outX
   rw [if_pos HS.out, Hp.out]
   exact H3.out.1
 . have HS : Hid (isB (byN s) (X.map Bkx.bk) = false) := Bool.eq_false_iff.2 hb
   have HN : Hid (¬ isB (byN s) (X.map Bkx.bk) = true) := hb
   clear hb
   go_wp2_with (go_at_call 49; refine (findB s A1 (by omega)).mono ?_; rintro e w2 ⟨rfl, H2⟩; rw [Hp.out, HS.out])
   go_ret
   refine ⟨n, rfl, ?_, (Ch.below B1.out).trans (Ch.below H2.out)⟩
   unfold outX
   rw [if_neg HN.out]
   exact A1.out.below H2.out
set_option maxHeartbeats 8000000 in
theorem del_O {w : World} {lo hi b n p : Nat} {X : List Obx} (hA : Hid (Rw w lo hi 71 EOb (some ⟨b, 0, none⟩) n n X)) (hn : n <= 1048576) (hp : p < n) :
  Calls Tryz.prog 120 #[.slice (some ⟨b, 0, none⟩) n n,.int .i64 p,.int .i64 ((p : Int) + 1)] w fun e w' => e = .returned (.slice (some ⟨b, 0, none⟩) (n - 1) n) /\ Hid (Rw w' lo hi 71 EOb (some ⟨b, 0, none⟩) (n - 1) n (X.eraseIdx p) /\ Ch w w' (fun q => q = b)) := by
 obtain ⟨w1, w2, r1, r2, f1, f2⟩ := del_steps hA.out hp Tryz.underlying62 inf71 rfl (by kernel_rfl)
 have F : Hid (Rw w2 lo hi 71 EOb (some ⟨b, 0, none⟩) (n - 1) n (X.eraseIdx p) /\ Ch w w2 (fun q => q = b)) := ⟨f1, f2⟩
 clear f1 f2
 have i1 : (p : Int) < (n : Int) := by omega
 have i2 : p + 1 <= n := by omega
 have i3 : (0 : Int) <= (p : Int) + 1 := by omega
 have i4 : ¬ ((p : Int) = (p : Int) + 1) := by omega
 have i5 : n - 1 <= n := by omega
 have i6 : ¬ (n = n - 1) := by omega
 have i7 : p <= n := by omega
 have i8 : ¬ ((n : Int) < (p : Int) + 1) := by omega
 have i11 : (p : Int) + 1 <= (n : Int) := by omega
 have wq : IntKind.i64.wrap ((p : Int) + 1) = (p : Int) + 1 := by rw [IntKind.wrap_i64]; omega
 go_enter Tryz.func120, Tryz.ntmps120
 by_cases hl : p + 1 < n
 . skip
   have HA : Hid ((Builtin.append_ #[62, 62] 62 #[.slice (some ⟨b, 0, none⟩) p n,.slice (some ⟨b, (p + 1) * 5, none⟩) (n - (p + 1)) (n - (p + 1))]).run Tryz.prog w.drew = .ok (.slice (some ⟨b, 0, none⟩) (n - 1) n) w1) := by
    have h9 := r1 ⟨b, (p + 1) * 5, none⟩ (n - (p + 1)) (fun _ => rfl)
    exact h9
   have cl : (Builtin.clear_ #[62] 0 #[.slice (some ⟨b, (n - 1) * 5, none⟩) (n - (n - 1)) (n - (n - 1))]).run Tryz.prog w1 = .ok (.tuple #[]) w2 := by rw [show n - (n - 1) = 1 by omega]; exact r2 0 1
   have i9 : ¬ (n = p + 1) := by omega
   go_upto_region 5 with (fail)
   refine wp_region_till (S := fun L W => True) (by kernel_rfl) trivial (fun hS => ?_)
   refine tkg (i := 0) (v := .slice (some ⟨b, 0, none⟩) n n) rfl hS (fun hSb => ?_)
   simp only [pA,pB,pC,Act.put,pD,pE,pF]
   clear hS
   refine tkg (i := 1) (v := .int .i64 (p : Int)) rfl hSb (fun hS => ?_)
   simp only [pA,pB,pC,Act.put,pD,pE,pF]
   clear hSb
   refine tkg (i := 2) (v := .slice (some ⟨b, 0, none⟩) p n) rfl hS (fun hSb => ?_)
   simp only [pA,pB,pC,Act.put,pD,pE,pF]
   clear hS
   refine tkg (i := 3) (v := .slice (some ⟨b, 0, none⟩) n n) rfl hSb (fun hS => ?_)
   simp only [pA,pB,pC,Act.put,pD,pE,pF]
   clear hSb
   refine tkg (i := 4) (v := .int .i64 ((p : Int) + 1)) rfl hS (fun hSb => ?_)
   simp only [pA,pB,pC,Act.put,pD,pE,pF]
   clear hS
   refine tkg (i := 5) (v := .slice (some ⟨b, (p + 1) * 5, none⟩) (n - (p + 1)) (n - (p + 1))) rfl hSb (fun hS => ?_)
   simp only [pA,pB,pC,Act.put,pD,pE,pF]
   clear hSb
   refine till_one (i := 6) (by kernel_rfl) rfl (fun K hK => ?_)
   simp only [pA,pB,pC]
   rw [if_pos (by rfl)]
   refine wp_app3 (.tmp 22) (.tmp 25) (by rfl) (by rfl) (by rfl) (by rfl) HA ?_
   refine hK.out _ _ (trivial) (fun hSb => ?_)
   clear hK K
   try simp only [pA,pB,pC,Act.put,pD,pE,pF]
   clear hS
   refine tkg (i := 7) (v := .slice (some ⟨b, 0, none⟩) (n - 1) n) rfl hSb (fun hS => ?_)
   simp only [pA,pB,pC,Act.put,pD,pE,pF]
   clear hSb
   refine till_done (by kernel_rfl) ?_ _
   clear hS
   show (Exit.then _ _) .normal _ _
   go_wp2
   go_ret
   exact ⟨rfl, F.out⟩
 . skip
   have HA : Hid ((Builtin.append_ #[62, 62] 62 #[.slice (some ⟨b, 0, none⟩) p n,.slice (some ⟨b, 0, none⟩) (n - (p + 1)) (n - (p + 1))]).run Tryz.prog w.drew = .ok (.slice (some ⟨b, 0, none⟩) (n - 1) n) w1) := by
    have h9 := r1 ⟨b, 0, none⟩ (n - (p + 1)) (fun h => by omega)
    exact h9
   have cl : (Builtin.clear_ #[62] 0 #[.slice (some ⟨b, (n - 1) * 5, none⟩) (n - (n - 1)) (n - (n - 1))]).run Tryz.prog w1 = .ok (.tuple #[]) w2 := by rw [show n - (n - 1) = 1 by omega]; exact r2 0 1
   have i9 : (n = p + 1) = True := eq_true (by omega)
   go_upto_region 5 with (fail)
   refine wp_region_till (S := fun L W => True) (by kernel_rfl) trivial (fun hS => ?_)
   refine tkg (i := 0) (v := .slice (some ⟨b, 0, none⟩) n n) rfl hS (fun hSb => ?_)
   simp only [pA,pB,pC,Act.put,pD,pE,pF]
   clear hS
   refine tkg (i := 1) (v := .int .i64 (p : Int)) rfl hSb (fun hS => ?_)
   simp only [pA,pB,pC,Act.put,pD,pE,pF]
   clear hSb
   refine tkg (i := 2) (v := .slice (some ⟨b, 0, none⟩) p n) rfl hS (fun hSb => ?_)
   simp only [pA,pB,pC,Act.put,pD,pE,pF]
   clear hS
   refine tkg (i := 3) (v := .slice (some ⟨b, 0, none⟩) n n) rfl hSb (fun hS => ?_)
   simp only [pA,pB,pC,Act.put,pD,pE,pF]
   clear hSb
   refine tkg (i := 4) (v := .int .i64 ((p : Int) + 1)) rfl hS (fun hSb => ?_)
   simp only [pA,pB,pC,Act.put,pD,pE,pF]
   clear hS
   refine tkg (i := 5) (v := .slice (some ⟨b, 0, none⟩) (n - (p + 1)) (n - (p + 1))) rfl hSb (fun hS => ?_)
   simp only [pA,pB,pC,Act.put,pD,pE,pF]
   clear hSb
   refine till_one (i := 6) (by kernel_rfl) rfl (fun K hK => ?_)
   simp only [pA,pB,pC]
   rw [if_pos (by rfl)]
   refine wp_app3 (.tmp 22) (.tmp 25) (by rfl) (by rfl) (by rfl) (by rfl) HA ?_
   refine hK.out _ _ (trivial) (fun hSb => ?_)
   clear hK K
   try simp only [pA,pB,pC,Act.put,pD,pE,pF]
   clear hS
   refine tkg (i := 7) (v := .slice (some ⟨b, 0, none⟩) (n - 1) n) rfl hSb (fun hS => ?_)
   simp only [pA,pB,pC,Act.put,pD,pE,pF]
   clear hSb
   refine till_done (by kernel_rfl) ?_ _
   clear hS
   show (Exit.then _ _) .normal _ _
   go_wp2
   go_ret
   exact ⟨rfl, F.out⟩
set_option maxHeartbeats 8000000 in
theorem out_O {w : World} {lo hi : Nat} {a : Option Addr} {n : Nat} {X : List Obx} (s : ByteArray) (hA : Hid (Rw w lo hi 71 EOb a n n X)) (hn : n <= 1048576) :
  Calls Tryz.prog 99 #[.slice a n n,.string s, .func (.func 53) #[] #[]] w fun e w' => ∃ n', e = .returned (.slice a n' n) /\ Hid (Rw w' lo hi 71 EOb a n' n (outX (byK s) Obx.ob X) /\ Ch w w' (fun q => blkOf a = some q)) := by
 have LX : Hid (n = X.length) := hA.out.len
 obtain ⟨w1, Hw1⟩ : ∃ w1, Hid (w = w1) := ⟨_, rfl⟩
 have B1 : Hid (Below w.heap.size w w1) := by rw [<- Hw1.out]; exact Below.refl _ _
 have A1 : Hid (Rw w1 lo hi 71 EOb a n n X) := hA.out.below B1.out
 obtain ⟨p, Hp⟩ : ∃ p, Hid (plcB (byK s) (X.map Obx.ob) = p) := ⟨_, rfl⟩
 go_enter Tryz.func99, Tryz.ntmps99
 go_upto_region 1 with (fail)
 rw [Hw1.out]
 by_cases hb : isB (byK s) (X.map Obx.ob) = true
 . have HS : Hid (isB (byK s) (X.map Obx.ob) = true) := hb
   have pl : p < n := by rw [<- Hp.out, LX.out]; rw [<- List.length_map (f := Obx.ob)]; exact isB_lt hb
   clear hb
   obtain ⟨b, rfl, _, _, _⟩ := A1.out.at_ (i := p) (by rw [<- LX.out]; exact pl)
   go_upto_region 4 with (go_at_call 52; refine (findO s A1 (by omega)).mono ?_; rintro e w2 ⟨rfl, H2⟩; rw [Hp.out, HS.out])
   have A2 : Hid (Rw w2 lo hi 71 EOb (some ⟨b, 0, none⟩) n n X) := A1.out.below H2.out
   go_wp2_with (go_at_call 120; refine (del_O A2 hn pl).mono ?_; rintro e w3 ⟨rfl, H3⟩)
   go_ret
   refine ⟨n - 1, rfl, ?_, ((Ch.below B1.out).trans (Ch.below H2.out)).trans (H3.out.2.weak (fun q _ h => by rw [h]; rfl))⟩
   unfold outX
   rw [if_pos HS.out, Hp.out]
   exact H3.out.1
 . have HS : Hid (isB (byK s) (X.map Obx.ob) = false) := Bool.eq_false_iff.2 hb
   have HN : Hid (¬ isB (byK s) (X.map Obx.ob) = true) := hb
   clear hb
   go_wp2_with (go_at_call 52; refine (findO s A1 (by omega)).mono ?_; rintro e w2 ⟨rfl, H2⟩; rw [Hp.out, HS.out])
   go_ret
   refine ⟨n, rfl, ?_, (Ch.below B1.out).trans (Ch.below H2.out)⟩
   unfold outX
   rw [if_neg HN.out]
   exact A1.out.below H2.out
set_option maxHeartbeats 8000000 in
theorem del_U {w : World} {lo hi b n p : Nat} {X : List Ulx} (hA : Hid (Rw w lo hi 77 EUl (some ⟨b, 0, none⟩) n n X)) (hn : n <= 1048576) (hp : p < n) :
  Calls Tryz.prog 130 #[.slice (some ⟨b, 0, none⟩) n n,.int .i64 p,.int .i64 ((p : Int) + 1)] w fun e w' => e = .returned (.slice (some ⟨b, 0, none⟩) (n - 1) n) /\ Hid (Rw w' lo hi 77 EUl (some ⟨b, 0, none⟩) (n - 1) n (X.eraseIdx p) /\ Ch w w' (fun q => q = b)) := by
 obtain ⟨w1, w2, r1, r2, f1, f2⟩ := del_steps hA.out hp Tryz.underlying63 inf77 rfl (by kernel_rfl)
 have F : Hid (Rw w2 lo hi 77 EUl (some ⟨b, 0, none⟩) (n - 1) n (X.eraseIdx p) /\ Ch w w2 (fun q => q = b)) := ⟨f1, f2⟩
 clear f1 f2
 have i1 : (p : Int) < (n : Int) := by omega
 have i2 : p + 1 <= n := by omega
 have i3 : (0 : Int) <= (p : Int) + 1 := by omega
 have i4 : ¬ ((p : Int) = (p : Int) + 1) := by omega
 have i5 : n - 1 <= n := by omega
 have i6 : ¬ (n = n - 1) := by omega
 have i7 : p <= n := by omega
 have i8 : ¬ ((n : Int) < (p : Int) + 1) := by omega
 have i11 : (p : Int) + 1 <= (n : Int) := by omega
 have wq : IntKind.i64.wrap ((p : Int) + 1) = (p : Int) + 1 := by rw [IntKind.wrap_i64]; omega
 go_enter Tryz.func130, Tryz.ntmps130
 by_cases hl : p + 1 < n
 . skip
   have HA : Hid ((Builtin.append_ #[63, 63] 63 #[.slice (some ⟨b, 0, none⟩) p n,.slice (some ⟨b, (p + 1) * 5, none⟩) (n - (p + 1)) (n - (p + 1))]).run Tryz.prog w.drew = .ok (.slice (some ⟨b, 0, none⟩) (n - 1) n) w1) := by
    have h9 := r1 ⟨b, (p + 1) * 5, none⟩ (n - (p + 1)) (fun _ => rfl)
    exact h9
   have cl : (Builtin.clear_ #[63] 0 #[.slice (some ⟨b, (n - 1) * 5, none⟩) (n - (n - 1)) (n - (n - 1))]).run Tryz.prog w1 = .ok (.tuple #[]) w2 := by rw [show n - (n - 1) = 1 by omega]; exact r2 0 1
   have i9 : ¬ (n = p + 1) := by omega
   go_upto_region 5 with (fail)
   refine wp_region_till (S := fun L W => True) (by kernel_rfl) trivial (fun hS => ?_)
   refine tkg (i := 0) (v := .slice (some ⟨b, 0, none⟩) n n) rfl hS (fun hSb => ?_)
   simp only [pA,pB,pC,Act.put,pD,pE,pF]
   clear hS
   refine tkg (i := 1) (v := .int .i64 (p : Int)) rfl hSb (fun hS => ?_)
   simp only [pA,pB,pC,Act.put,pD,pE,pF]
   clear hSb
   refine tkg (i := 2) (v := .slice (some ⟨b, 0, none⟩) p n) rfl hS (fun hSb => ?_)
   simp only [pA,pB,pC,Act.put,pD,pE,pF]
   clear hS
   refine tkg (i := 3) (v := .slice (some ⟨b, 0, none⟩) n n) rfl hSb (fun hS => ?_)
   simp only [pA,pB,pC,Act.put,pD,pE,pF]
   clear hSb
   refine tkg (i := 4) (v := .int .i64 ((p : Int) + 1)) rfl hS (fun hSb => ?_)
   simp only [pA,pB,pC,Act.put,pD,pE,pF]
   clear hS
   refine tkg (i := 5) (v := .slice (some ⟨b, (p + 1) * 5, none⟩) (n - (p + 1)) (n - (p + 1))) rfl hSb (fun hS => ?_)
   simp only [pA,pB,pC,Act.put,pD,pE,pF]
   clear hSb
   refine till_one (i := 6) (by kernel_rfl) rfl (fun K hK => ?_)
   simp only [pA,pB,pC]
   rw [if_pos (by rfl)]
   refine wp_app3 (.tmp 22) (.tmp 25) (by rfl) (by rfl) (by rfl) (by rfl) HA ?_
   refine hK.out _ _ (trivial) (fun hSb => ?_)
   clear hK K
   try simp only [pA,pB,pC,Act.put,pD,pE,pF]
   clear hS
   refine tkg (i := 7) (v := .slice (some ⟨b, 0, none⟩) (n - 1) n) rfl hSb (fun hS => ?_)
   simp only [pA,pB,pC,Act.put,pD,pE,pF]
   clear hSb
   refine till_done (by kernel_rfl) ?_ _
   clear hS
   show (Exit.then _ _) .normal _ _
   go_wp2
   go_ret
   exact ⟨rfl, F.out⟩
 . skip
   have HA : Hid ((Builtin.append_ #[63, 63] 63 #[.slice (some ⟨b, 0, none⟩) p n,.slice (some ⟨b, 0, none⟩) (n - (p + 1)) (n - (p + 1))]).run Tryz.prog w.drew = .ok (.slice (some ⟨b, 0, none⟩) (n - 1) n) w1) := by
    have h9 := r1 ⟨b, 0, none⟩ (n - (p + 1)) (fun h => by omega)
    exact h9
   have cl : (Builtin.clear_ #[63] 0 #[.slice (some ⟨b, (n - 1) * 5, none⟩) (n - (n - 1)) (n - (n - 1))]).run Tryz.prog w1 = .ok (.tuple #[]) w2 := by rw [show n - (n - 1) = 1 by omega]; exact r2 0 1
   have i9 : (n = p + 1) = True := eq_true (by omega)
   go_upto_region 5 with (fail)
   refine wp_region_till (S := fun L W => True) (by kernel_rfl) trivial (fun hS => ?_)
   refine tkg (i := 0) (v := .slice (some ⟨b, 0, none⟩) n n) rfl hS (fun hSb => ?_)
   simp only [pA,pB,pC,Act.put,pD,pE,pF]
   clear hS
   refine tkg (i := 1) (v := .int .i64 (p : Int)) rfl hSb (fun hS => ?_)
   simp only [pA,pB,pC,Act.put,pD,pE,pF]
   clear hSb
   refine tkg (i := 2) (v := .slice (some ⟨b, 0, none⟩) p n) rfl hS (fun hSb => ?_)
   simp only [pA,pB,pC,Act.put,pD,pE,pF]
   clear hS
   refine tkg (i := 3) (v := .slice (some ⟨b, 0, none⟩) n n) rfl hSb (fun hS => ?_)
   simp only [pA,pB,pC,Act.put,pD,pE,pF]
   clear hSb
   refine tkg (i := 4) (v := .int .i64 ((p : Int) + 1)) rfl hS (fun hSb => ?_)
   simp only [pA,pB,pC,Act.put,pD,pE,pF]
   clear hS
   refine tkg (i := 5) (v := .slice (some ⟨b, 0, none⟩) (n - (p + 1)) (n - (p + 1))) rfl hSb (fun hS => ?_)
   simp only [pA,pB,pC,Act.put,pD,pE,pF]
   clear hSb
   refine till_one (i := 6) (by kernel_rfl) rfl (fun K hK => ?_)
   simp only [pA,pB,pC]
   rw [if_pos (by rfl)]
   refine wp_app3 (.tmp 22) (.tmp 25) (by rfl) (by rfl) (by rfl) (by rfl) HA ?_
   refine hK.out _ _ (trivial) (fun hSb => ?_)
   clear hK K
   try simp only [pA,pB,pC,Act.put,pD,pE,pF]
   clear hS
   refine tkg (i := 7) (v := .slice (some ⟨b, 0, none⟩) (n - 1) n) rfl hSb (fun hS => ?_)
   simp only [pA,pB,pC,Act.put,pD,pE,pF]
   clear hSb
   refine till_done (by kernel_rfl) ?_ _
   clear hS
   show (Exit.then _ _) .normal _ _
   go_wp2
   go_ret
   exact ⟨rfl, F.out⟩
structure Ex (W : World) (gb gx bb off : Nat) (dy tm : Int) : Prop where
 b : ∃ cs, W.heap[gb]? = some (.cells cs 131 (0, 0)) /\ cs[0]? = some (.pointer (some ⟨bb, off, none⟩))
 d : ∃ cs, W.heap[bb]? = some (.cells cs 65 (0, 0)) /\ cs[off + 2]? = some (.int .i64 dy)
 x : ∃ cs, W.heap[gx]? = some (.cells cs 29 (0, 0)) /\ cs[16]? = some (.int .i64 tm)
theorem Ex.ch {W W' : World} {gb gx bb off : Nat} {dy tm : Int} {S : Nat -> Prop} (h : Ex W gb gx bb off dy tm) (hc : Ch W W' S) (hS : ∀ q, S q -> ∃ cs, W.heap[q]? = some (.cells cs 71 (0, 0))) : Ex W' gb gx bb off dy tm := by
 obtain ⟨c1, h1, k1⟩ := h.b
 obtain ⟨c2, h2, k2⟩ := h.d
 obtain ⟨c3, h3, k3⟩ := h.x
 have ne : ∀ (q : Nat) (cs : Array Value) (t : TypeId), t ≠ 71 -> W.heap[q]? = some (.cells cs t (0, 0)) -> W'.heap[q]? = some (.cells cs t (0, 0)) := fun q cs t ht hq => by
  refine (hc.block q (gl hq) (fun hs => ?_)).trans hq
  obtain ⟨c4, h4⟩ := hS q hs
  rw [hq] at h4
  cases h4
  exact ht rfl
 exact ⟨⟨c1, ne _ _ _ (by decide) h1, k1⟩, ⟨c2, ne _ _ _ (by decide) h2, k2⟩, ⟨c3, ne _ _ _ (by decide) h3, k3⟩⟩
theorem Ex.below {W W' : World} {gb gx bb off : Nat} {dy tm : Int} (h : Ex W gb gx bb off dy tm) (hb : Below W.heap.size W W') : Ex W' gb gx bb off dy tm := h.ch (S := fun _ => False) (Ch.below hb) (fun _ h => h.elim)
def gonO (dy tm : Int) (o : Obd) : Bool := decide (IntKind.i64.wrap (o.time + dy) <= tm)
set_option maxHeartbeats 2000000 in
theorem pred108 {w : World} {A : Array Value} {x : Obx} {gb gx bb off : Nat} {dy tm : Int} (hA : Hid (A = (EOb.e x).toArray)) (hE : Hid (Ex w gb gx bb off dy tm)) :
  Calls Tryz.prog 108 #[.agg A, .pointer (some ⟨gb, 0, none⟩), .pointer (some ⟨gx, 0, none⟩)] w fun e w' => e = .returned (.bool (gonO dy tm x.ob)) /\ Hid (Below w.heap.size w w') := by
 obtain ⟨w1, Hw1⟩ : ∃ w1, Hid (w.alloc (.cells A 71) = w1) := ⟨_, rfl⟩
 obtain ⟨g, Hg⟩ : ∃ g, Hid (w.heap.size = g) := ⟨_, rfl⟩
 have B1 : Hid (Below w.heap.size w w1) := by rw [<- Hw1.out]; exact alloc1 w _
 have k1 : Hid (w1.heap[g]? = some (.cells A 71 (0, 0))) := by rw [<- Hw1.out, <- Hg.out]; exact heap_alloc_new w _
 have E1 := hE.out.below B1.out
 obtain ⟨c1, h1, m1⟩ := E1.b
 obtain ⟨c2, h2, m2⟩ := E1.d
 obtain ⟨c3, h3, m3⟩ := E1.x
 have q0 : ∀ j, (w1.drewN j).cell? ⟨g, 3, none⟩ = some (.int .i64 x.ob.time) := fun j => cell_arr (W := w1) k1.out (by rw [hA.out]; rfl)
 have q1 : ∀ j, (w1.drewN j).cell? ⟨gb, 0, none⟩ = some (.pointer (some ⟨bb, off, none⟩)) := fun j => cell_arr (W := w1) h1 m1
 have q2 : ∀ j, (w1.drewN j).cell? ⟨bb, off + 2, none⟩ = some (.int .i64 dy) := fun j => cell_arr (W := w1) h2 m2
 have q3 : ∀ j, (w1.drewN j).cell? ⟨gx, 16, none⟩ = some (.int .i64 tm) := fun j => cell_arr (W := w1) h3 m3
 clear E1 h1 h2 h3 m1 m2 m3
 obtain ⟨v, Hv⟩ : ∃ v, Hid (IntKind.i64.wrap (x.ob.time + dy) = v) := ⟨_, rfl⟩
 have HG : Hid (gonO dy tm x.ob = decide (v <= tm)) := by show _ = _; unfold gonO; rw [Hv.out]
 go_enter Tryz.func108, Tryz.ntmps108
 go_upto_region 1 with (fail)
 rw [Hw1.out, Hg.out]
 clear Hw1
 have wv := Hv.out
 go_quiet (fail)
 go_wp2
 go_ret
 exact ⟨by rw [HG.out]; rfl, below_drewN B1.out _⟩
end Go.Proofs.YtfabnnbljkkihaaGreatDoor
