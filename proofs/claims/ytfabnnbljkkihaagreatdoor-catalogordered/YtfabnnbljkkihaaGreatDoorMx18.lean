import Derived.Test.YtfabnnbljkkihaaGreatDoorMxp
import Derived.Test.YtfabnnbljkkihaaGreatDoorMx16
import Derived.Lib.Overlaps
namespace Go.Proofs.YtfabnnbljkkihaaGreatDoor
open Go.ChangeShapes Go.WideShapes Go.ChangeAt Go.RowKit
set_option maxRecDepth 20000
set_option linter.unusedVariables false
set_option linter.unusedSimpArgs false
theorem inf24 : (Tryz.prog.info? 24).map (fun i => (i.zero, i.size, i.bytes)) = some (some (.agg #[.int .i64 0,.int .i64 0,.int .i64 0]), 3, 24) := by kernel_rfl
theorem ch_row (w : World) (b : Nat) (R : Array Value) : Ch w (w.setRow b R) (fun q => q = b) := ⟨rfl, rfl, rfl, by rw [setRow_size]; exact Nat.le_refl _, fun k hk hn => setRow_other _ _ _ _ hn⟩
section
variable {α : Type} {E : Enc α} {w : World} {lo hi : Nat} {t s : TypeId} {b n c i vb : Nat} {l : List α} {y : α}
theorem room_steps (h : Rw w lo hi t E (some ⟨b, 0, none⟩) n c l) (hin : i < n) (hc : n + 1 <= c) (hu : Tryz.prog.underlying s = some (.slice t)) (hsz : (Tryz.prog.info? t).map (·.size) = some E.z) (hv : w.heap[vb]? = some (.cells (E.e y).toArray t (0, 0))) (hne : vb ≠ b) :
  ∃ w1 w2, (∀ dC sC, (Builtin.copy_ #[s, s] 3 #[.slice (some ⟨b, (i + 1) * E.z, none⟩) (n - i) dC,.slice (some ⟨b, i * E.z, none⟩) (n + 1 - i) sC]).run Tryz.prog w.drew = .ok (goInt ((n - i : Nat) : Int)) w1) ∧
   (∀ dC, (Builtin.copy_ #[s, s] 3 #[.slice (some ⟨b, i * E.z, none⟩) (n + 1 - i) dC,.slice (some ⟨vb, 0, none⟩) 1 1]).run Tryz.prog w1 = .ok (goInt 1) w2) ∧
   Rw w2 lo hi t E (some ⟨b, 0, none⟩) (n + 1) c (l.take i ++ y :: l.drop i) /\ Ch w w2 (fun q => q = b) := by
 have hl := h.len
 have hzp := h.pos
 rcases h.row with ⟨h0, ⟨h1, _⟩ | ⟨q, cap, cur, h1, h2, h3, h4, h5, h6, h7⟩⟩
 . cases h1
 . cases h1
   have ez : (i + 1) * E.z = i * E.z + E.z := Nat.succ_mul i E.z
   have hld : (E.fl (l.drop i)).length = (n - i) * E.z := by rw [E.fl_len, List.length_drop, hl]
   have le1 : (i + 1) * E.z + (n - i) * E.z = (n + 1) * E.z := by rw [<- Nat.add_mul]; congr 1; omega
   have le2 : (n + 1) * E.z <= c * E.z := Nat.mul_le_mul_right _ hc
   have lei : i * E.z <= n * E.z := Nat.mul_le_mul_right _ (by omega)
   have hd3 : w.drew.heap[b]? = some (.cells cur t (0, 0)) := h3
   have cel : ∀ j v, (E.fl l)[j]? = some v -> w.cell? ⟨b, j, none⟩ = some v := fun j v hv => by
    have hj := (List.getElem?_eq_some_iff.1 hv).1
    rw [E.fl_len, <- hl] at hj
    rw [h.row.cellAt j hj]; exact hv
   have hA : ∀ dC sC, (Builtin.copy_ #[s, s] 3 #[.slice (some ⟨b, (i + 1) * E.z, none⟩) (n - i) dC,.slice (some ⟨b, i * E.z, none⟩) (n + 1 - i) sC]).run Tryz.prog w.drew = .ok (goInt ((n - i : Nat) : Int)) (w.drew.setRow b (cur.toList.take ((i + 1) * E.z) ++ E.fl (l.drop i) ++ cur.toList.drop ((i + 1) * E.z + (E.fl (l.drop i)).length)).toArray) := fun dC sC => by
    have hm : Nat.min (n + 1 - i) (n - i) = n - i := Nat.min_eq_right (by omega)
    have hc := run_copyZ w.drew s s 3 t E.z b ((i + 1) * E.z) (n - i) dC ⟨b, i * E.z, none⟩ (n + 1 - i) sC cur t (E.fl (l.drop i)) hu hsz hd3 (by rw [hld, hm]) (fun j v hj => by
     rw [Addr.add_mid]
     rw [E.fl_drop, List.getElem?_drop] at hj
     exact cel _ _ hj) (by rw [hld, h6, le1]; exact le2) (E.fl_oc _)
    rw [hm] at hc
    exact hc
   obtain ⟨R1, hR1⟩ : ∃ R1 : Array Value, R1 = (cur.toList.take ((i + 1) * E.z) ++ E.fl (l.drop i) ++ cur.toList.drop ((i + 1) * E.z + (E.fl (l.drop i)).length)).toArray := ⟨_, rfl⟩
   rw [<- hR1] at hA
   have r1l : R1.toList = cur.toList.take ((i + 1) * E.z) ++ E.fl (l.drop i) ++ cur.toList.drop ((n + 1) * E.z) := by rw [hR1, hld, le1]
   have r1s : R1.size = c * E.z := by
    rw [<- Array.length_toList, r1l]
    simp only [List.length_append, List.length_take, List.length_drop, Array.length_toList, h6, hld]
    rw [Nat.min_eq_left (by omega)]
    omega
   obtain ⟨w1, hw1⟩ : ∃ w1, w1 = w.drew.setRow b R1 := ⟨_, rfl⟩
   rw [<- hw1] at hA
   have g1 : w1.heap[b]? = some (.cells R1 t (0, 0)) := by rw [hw1]; exact setRow_heap _ _ _ _ _ _ hd3
   have v1 : w1.heap[vb]? = some (.cells (E.e y).toArray t (0, 0)) := by rw [hw1]; exact (setRow_other _ _ _ _ hne).trans hv
   have hB : ∀ dC, (Builtin.copy_ #[s, s] 3 #[.slice (some ⟨b, i * E.z, none⟩) (n + 1 - i) dC,.slice (some ⟨vb, 0, none⟩) 1 1]).run Tryz.prog w1 = .ok (goInt 1) (w1.setRow b (R1.toList.take (i * E.z) ++ E.e y ++ R1.toList.drop (i * E.z + (E.e y).length)).toArray) := fun dC => by
    have hm : Nat.min 1 (n + 1 - i) = 1 := Nat.min_eq_left (by omega)
    have hc := run_copyZ w1 s s 3 t E.z b (i * E.z) (n + 1 - i) dC ⟨vb, 0, none⟩ 1 1 R1 t (E.e y) hu hsz g1 (by rw [E.len, hm, Nat.one_mul]) (fun j v hj => by
     rw [Addr.add_mid, Nat.zero_add]
     simp [World.cell?, v1, hj]) (by rw [E.len, r1s]; omega) (E.one y)
    rw [hm] at hc
    exact hc
   have tk : cur.toList.take (i * E.z) = E.fl (l.take i) := by rw [E.fl_take, <- h7, List.take_take, Nat.min_eq_left lei]
   have r2l : R1.toList.take (i * E.z) ++ E.e y ++ R1.toList.drop (i * E.z + (E.e y).length) = E.fl (l.take i) ++ E.e y ++ E.fl (l.drop i) ++ cur.toList.drop ((n + 1) * E.z) := by
    have l1 : (cur.toList.take ((i + 1) * E.z)).length = (i + 1) * E.z := by rw [List.length_take, Array.length_toList, h6, Nat.min_eq_left (by omega)]
    rw [E.len, <- ez, r1l, List.append_assoc (cur.toList.take ((i + 1) * E.z)), List.take_append_of_le_length (by rw [l1, ez]; omega), List.take_take, Nat.min_eq_left (by rw [ez]; omega), tk, List.drop_left' l1]
    simp only [List.append_assoc]
   have eln : (E.fl (l.take i) ++ E.e y ++ E.fl (l.drop i)).length = (n + 1) * E.z := by
    rw [List.length_append, List.length_append, hld, E.len, E.fl_len, List.length_take, Nat.min_eq_left (by omega), <- ez, le1]
   have efl : E.fl (l.take i ++ y :: l.drop i) = E.fl (l.take i) ++ E.e y ++ E.fl (l.drop i) := by rw [E.fl_app, E.fl_cons, List.append_assoc]
   refine ⟨w1, _, hA, hB, ⟨⟨by rw [efl, eln], .inr ⟨b, c, _, rfl, h2, setRow_heap _ _ _ _ _ _ g1, hc, h5, ?_, ?_⟩⟩, h.top, hzp⟩, ?_⟩
   . rw [r2l]
     simp only [List.size_toArray]
     rw [List.length_append, eln, List.length_drop, Array.length_toList, h6]
     omega
   . rw [r2l, efl]
     exact List.take_left' eln
   . rw [hw1]
     exact (Ch.drew w _).trans (Ch.trans (b := w.drew.setRow b R1) (ch_row _ _ _) (ch_row _ _ _))
end
set_option maxHeartbeats 8000000 in
theorem insR_F {w : World} {lo hi b n c i vb : Nat} {X : List Idd} {y : Idd} (hA : Hid (Rw w lo hi 24 EId (some ⟨b, 0, none⟩) n c X)) (hn : n <= 1048576) (hin : i < n) (hc : n + 1 <= c) (hv : Hid (w.heap[vb]? = some (.cells (EId.e y).toArray 24 (0, 0)))) (hne : vb ≠ b) :
  Calls Tryz.prog 134 #[.slice (some ⟨b, 0, none⟩) n c,.int .i64 i,.slice (some ⟨vb, 0, none⟩) 1 1] w fun e w' => e = .returned (.slice (some ⟨b, 0, none⟩) (n + 1) c) /\ Hid (Rw w' lo hi 24 EId (some ⟨b, 0, none⟩) (n + 1) c (X.take i ++ y :: X.drop i) /\ Ch w w' (fun q => q = b)) := by
 obtain ⟨w1, w2, r1, r2, f1, f2⟩ := room_steps hA.out hin hc Tryz.underlying49 inz24 hv.out hne
 have HA : Hid ((Builtin.copy_ #[49, 49] 3 #[.slice (some ⟨b, (i + 1) * 3, none⟩) (n - i) (c - (i + 1)),.slice (some ⟨b, i * 3, none⟩) (n + 1 - i) (c - i)]).run Tryz.prog w.drew = .ok (goInt ((n - i : Nat) : Int)) w1) := r1 _ _
 have HB : Hid ((Builtin.copy_ #[49, 49] 3 #[.slice (some ⟨b, i * 3, none⟩) (n + 1 - i) (c - i),.slice (some ⟨vb, 0, none⟩) 1 1]).run Tryz.prog w1 = .ok (goInt 1) w2) := r2 _
 have F : Hid (Rw w2 lo hi 24 EId (some ⟨b, 0, none⟩) (n + 1) c (X.take i ++ y :: X.drop i) /\ Ch w w2 (fun q => q = b)) := ⟨f1, f2⟩
 clear r1 r2 f1 f2
 have hcm : c <= maxLen := by
  rcases hA.out.row.2 with ⟨h1, _⟩ | ⟨q, cap, cur, h1, _, _, _, h5, _⟩
  . cases h1
  . cases h1; exact h5
 unfold maxLen at hcm
 have i1 : (i : Int) < (n : Int) := by omega
 have i2 : ¬ ((i : Int) = (n : Int)) := by omega
 have i3 : i <= n := by omega
 have i4 : ¬ (c = i) := by omega
 have i6 : i <= n + 1 := by omega
 have i7 : ¬ ((c : Int) < (n : Int) + 1) := by omega
 have i8 : (0 : Int) <= (i : Int) + 1 := by omega
 have i9 : ¬ (c = i + 1) := by omega
 have i10 : (n : Int) + 1 <= (c : Int) := by omega
 have i12 : n + 1 <= c := hc
 have i13 : ¬ ((n : Int) + 1 < (i : Int)) := by omega
 have wq : IntKind.i64.wrap ((i : Int) + 1) = (i : Int) + 1 := by rw [IntKind.wrap_i64]; omega
 have OV : ∀ lb cb, (callFunc 151 #[.slice (some ⟨vb, 0, none⟩) 1 1,.slice (some ⟨b, (i + 1) * 3, none⟩) lb cb]).run Tryz.prog w = .ok (.value (.bool false)) w := fun lb cb => by
  have sh1 : w.shape? vb = some (24, 3) := by have h := hv.out; simp [World.shape?, h, EId, encId]
  obtain ⟨cur, hcur, hsz⟩ : ∃ cur, w.heap[b]? = some (.cells cur 24 (0, 0)) /\ cur.size = c * 3 := by
   rcases hA.out.row.2 with ⟨h1, _⟩ | ⟨q, cap, cur, h1, _, h3, _, _, h6, _⟩
   . cases h1
   . cases h1; exact ⟨cur, h3, h6⟩
  have sh2 : w.shape? b = some (24, cur.size) := by simp [World.shape?, hcur]
  rw [run_callFunc_extern Tryz.func151 (by kernel_rfl) (by kernel_rfl) (by kernel_rfl) (e := Extern.SlicesOverlaps.overlaps #[49, 49] #[4]) (by kernel_rfl),
   Lib.run_overlaps_apart w 49 4 24 Tryz.underlying49 3 Tryz.sizeOf24 ⟨vb, 0, none⟩ ⟨b, (i + 1) * 3, none⟩ 1 1 lb cb hne 24 24 3 cur.size sh1 sh2 (by rw [hsz]; omega) (by have h := hv.out; simp [World.frozen?, h]) (by have h := hv.out; simp [World.frozen?, h])]
  rfl
 have ov := OV (n - i) (c - (i + 1))
 have cb := HB.out
 go_enter Tryz.func134, Tryz.ntmps134
 go_upto_region 15 with (fail)
 clear ov
 refine wp_region_till (S := fun L W => True) (by kernel_rfl) trivial (fun hS => ?_)
 refine tkg (i := 0) (v := .slice (some ⟨b, 0, none⟩) (n + 1) c) rfl hS (fun hSb => ?_)
 simp only [pA,pB,pC,Act.put,pD,pE,pF]
 clear hS
 refine tkg (i := 1) (v := .int .i64 (i : Int)) rfl hSb (fun hS => ?_)
 simp only [pA,pB,pC,Act.put,pD,pE,pF]
 clear hSb
 refine tkg (i := 2) (v := .int .i64 1) rfl hS (fun hSb => ?_)
 simp only [pA,pB,pC,Act.put,pD,pE,pF]
 clear hS
 refine tkg (i := 3) (v := .int .i64 ((i : Int) + 1)) rfl hSb (fun hS => ?_)
 simp only [pA,pB,pC,Act.put,pD,pE,pF]
 clear hSb
 refine tkg (i := 4) (v := .slice (some ⟨b, (i + 1) * 3, none⟩) (n - i) (c - (i + 1))) rfl hS (fun hSb => ?_)
 simp only [pA,pB,pC,Act.put,pD,pE,pF]
 clear hS
 refine tkg (i := 5) (v := .slice (some ⟨b, 0, none⟩) (n + 1) c) rfl hSb (fun hS => ?_)
 simp only [pA,pB,pC,Act.put,pD,pE,pF]
 clear hSb
 refine tkg (i := 6) (v := .int .i64 (i : Int)) rfl hS (fun hSb => ?_)
 simp only [pA,pB,pC,Act.put,pD,pE,pF]
 clear hS
 refine tkg (i := 7) (v := .slice (some ⟨b, i * 3, none⟩) (n + 1 - i) (c - i)) rfl hSb (fun hS => ?_)
 simp only [pA,pB,pC,Act.put,pD,pE,pF]
 clear hSb
 refine till_one (i := 8) (by kernel_rfl) rfl (fun K hK => ?_)
 simp only [pA,pB,pC]
 rw [if_pos (by rfl)]
 refine wp_cpy (.tmp 73) (.tmp 76) (by rfl) (by rfl) (by rfl) (by rfl) HA ?_
 refine hK.out _ _ (trivial) (fun hSb => ?_)
 clear hK K
 try simp only [pA,pB,pC,Act.put,pD,pE,pF]
 clear hS
 refine till_done (by kernel_rfl) ?_ _
 clear hSb
 show (Exit.then _ _) .normal _ _
 go_wp2
 go_ret
 exact ⟨rfl, F.out⟩
theorem fold24 {A : Array Value} {x : Idd} (h : A = (EId.e x).toArray) : Array.foldl (fun cs (x : Value × Nat) => cs.setIfInBounds x.snd x.fst) #[.int .i64 0,.int .i64 0,.int .i64 0] A.zipIdx 0 3 = A := by
 subst h
 kernel_rfl
set_option maxHeartbeats 8000000 in
theorem insF {w : World} {lo hi : Nat} {a : Option Addr} {n i vb : Nat} {X : List Idd} {y : Idd} (hA : Hid (Rw w lo hi 24 EId a n n X)) (hn : n <= 1048576) (hi : i < n) (hv : Hid (w.heap[vb]? = some (.cells (EId.e y).toArray 24 (0, 0)))) :
  Calls Tryz.prog 134 #[.slice a n n,.int .i64 i,.slice (some ⟨vb, 0, none⟩) 1 1] w fun e w' => ∃ a' c', e = .returned (.slice a' (n + 1) c') /\ Hid (Rw w' w.heap.size w'.heap.size 24 EId a' (n + 1) c' (X.take i ++ y :: X.drop i) /\ Below w.heap.size w w') := by
 obtain ⟨b, G, w1, w2, w3, hab, hG, r1, r2, r3, f1, f2⟩ := ins_steps hA.out hi hn Tryz.underlying49 Tryz.underlying3 inf24 rfl (by decide) hv.out
 subst hab
 obtain ⟨g, Hg⟩ := nm (w.heap.size)
 rw [Hg.out] at r1 r2 r3 f1
 have HA : Hid _ := r1
 have HB : ∀ dC, Hid ((Builtin.copy_ #[49, 49] 3 #[.slice (some ⟨g, i * 3, none⟩) (n + 1 - i) dC,.slice (some ⟨vb, 0, none⟩) 1 1]).run Tryz.prog w1 = .ok (goInt 1) w2) := r2
 have HC : ∀ dC sC, Hid ((Builtin.copy_ #[49, 49] 3 #[.slice (some ⟨g, (i + 1) * 3, none⟩) (n - i) dC,.slice (some ⟨b, i * 3, none⟩) (n - i) sC]).run Tryz.prog w2.drew = .ok (goInt ((n - i : Nat) : Int)) w3) := fun dC sC => by have h := r3 dC sC; rw [Nat.add_sub_add_right] at h; exact h
 have F1 : Hid _ := f1
 have F2 : Hid (Below w.heap.size w w3) := f2
 clear r1 r2 r3 f1 f2
 have i1 : (i : Int) < (n : Int) := by omega
 have i2 : ¬ ((i : Int) = (n : Int)) := by omega
 have i3 : i <= n := by omega
 have i4 : ¬ (n = i) := by omega
 have i5 : ¬ (G = i) := by omega
 have i6 : i <= n + 1 := by omega
 have i7 : n + 1 <= G := hG
 have i8 : (0 : Int) <= (i : Int) + 1 := by omega
 have i9 : ¬ (G = i + 1) := by omega
 have wq : IntKind.i64.wrap ((i : Int) + 1) = (i : Int) + 1 := by rw [IntKind.wrap_i64]; omega
 go_enter Tryz.func134, Tryz.ntmps134
 go_upto_region 10 with (at_builtin; refine wpList_app2 (by rfl) (.tmp 34) (.tmp 39) (by rfl) (by rfl) (by rfl) (by rfl) HA ?_)
 have cb := (HB (G - i)).out
 go_upto_region 11 with (fail)
 clear cb
 refine wp_region_till (S := fun L W => True) (by kernel_rfl) trivial (fun hS => ?_)
 refine tkg (i := 0) (v := .slice (some ⟨g, 0, none⟩) (n + 1) G) rfl hS (fun hSb => ?_)
 simp only [pA,pB,pC,Act.put,pD,pE,pF]
 clear hS
 refine tkg (i := 1) (v := .int .i64 (i : Int)) rfl hSb (fun hS => ?_)
 simp only [pA,pB,pC,Act.put,pD,pE,pF]
 clear hSb
 refine tkg (i := 2) (v := .int .i64 1) rfl hS (fun hSb => ?_)
 simp only [pA,pB,pC,Act.put,pD,pE,pF]
 clear hS
 refine tkg (i := 3) (v := .int .i64 ((i : Int) + 1)) rfl hSb (fun hS => ?_)
 simp only [pA,pB,pC,Act.put,pD,pE,pF]
 clear hSb
 refine tkg (i := 4) (v := .slice (some ⟨g, (i + 1) * 3, none⟩) (n - i) (G - (i + 1))) rfl hS (fun hSb => ?_)
 simp only [pA,pB,pC,Act.put,pD,pE,pF]
 clear hS
 refine tkg (i := 5) (v := .slice (some ⟨b, 0, none⟩) n n) rfl hSb (fun hS => ?_)
 simp only [pA,pB,pC,Act.put,pD,pE,pF]
 clear hSb
 refine tkg (i := 6) (v := .int .i64 (i : Int)) rfl hS (fun hSb => ?_)
 simp only [pA,pB,pC,Act.put,pD,pE,pF]
 clear hS
 refine tkg (i := 7) (v := .slice (some ⟨b, i * 3, none⟩) (n - i) (n - i)) rfl hSb (fun hS => ?_)
 simp only [pA,pB,pC,Act.put,pD,pE,pF]
 clear hSb
 refine till_one (i := 8) (by kernel_rfl) rfl (fun K hK => ?_)
 simp only [pA,pB,pC]
 rw [if_pos (by rfl)]
 refine wp_cpy (.tmp 50) (.tmp 53) (by rfl) (by rfl) (by rfl) (by rfl) (HC (G - (i + 1)) (n - i)) ?_
 refine hK.out _ _ (trivial) (fun hSb => ?_)
 clear hK K
 try simp only [pA,pB,pC,Act.put,pD,pE,pF]
 clear hS
 refine till_done (by kernel_rfl) ?_ _
 clear hSb
 show (Exit.then _ _) .normal _ _
 go_wp2
 go_ret
 exact ⟨_, G, rfl, by rw [Hg.out]; exact F1.out, F2.out⟩
set_option maxHeartbeats 4000000 in
theorem insEF {w : World} {lo hi : Nat} {a : Option Addr} {n c vb : Nat} {X : List Idd} {y : Idd} (hA : Hid (Rw w lo hi 24 EId a n c X)) (hlo : lo <= w.heap.size) (hn : n + 1 <= 1048576) (hv : Hid (w.heap[vb]? = some (.cells (EId.e y).toArray 24 (0, 0)))) :
  Calls Tryz.prog 134 #[.slice a n c,.int .i64 n,.slice (some ⟨vb, 0, none⟩) 1 1] w fun e w' => ∃ a' c', e = .returned (.slice a' (n + 1) c') /\ Hid (Rw w' lo w'.heap.size 24 EId a' (n + 1) c' (X ++ [y]) /\ Ch w w' (fun q => blkOf a = some q)) := by
 obtain ⟨a', c', w', r1, f1, f2⟩ := app_end hA.out hn hlo Tryz.underlying49 inf24 rfl (by decide) hv.out
 have HA : Hid ((Builtin.append_ #[49, 49] 49 #[.slice a n c,.slice (some ⟨vb, 0, none⟩) 1 1]).run Tryz.prog w = .ok (.slice a' (n + 1) c') w') := r1
 have F : Hid (Rw w' lo w'.heap.size 24 EId a' (n + 1) c' (X ++ [y]) /\ Ch w w' (fun q => blkOf a = some q)) := ⟨f1, f2⟩
 have i1 : n <= c := hA.out.cap
 clear r1 f1 f2
 go_enter Tryz.func134, Tryz.ntmps134
 go_wp2_with (at_builtin; refine wpList_appt (by rfl) (.tmp 23) (.tmp 24) (by rfl) (by rfl) (by rfl) (by rfl) HA ?_)
 all_goals
  go_ret
  exact ⟨a', c', rfl, F.out⟩
set_option maxHeartbeats 8000000 in
theorem set_F {w : World} {lo hi : Nat} {a : Option Addr} {n c : Nat} {X : List Idd} {y : Idd} {A : Array Value} (m : Int) (hA : Hid (Rw w lo hi 24 EId a n c X)) (hlo : lo <= w.heap.size) (hn : n + 1 <= 1048576) (hy : Hid (A = (EId.e y).toArray)) :
  Calls Tryz.prog 112 #[.slice a n c,.int .i64 m, .func (.func 110) #[] #[], .agg A] w fun e w' => ∃ a' n' c', e = .returned (.slice a' n' c') /\ Hid (Rw w' lo w'.heap.size 24 EId a' n' c' (setX (byF m) id X y) /\ Ch w w' (fun q => blkOf a = some q)) := by
 have LX : Hid (n = X.length) := hA.out.len
 have az : A.size = 3 := arr_sz hy.out
 have ai : (Tryz.prog.info? 24).map (·.size) = some A.size := by rw [az]; exact inz24
 have AA : Hid (A.all (·.oneCell') = true) := arr_all hy.out
 obtain ⟨w1, Hw1⟩ := nm (w.alloc (.cells A 24))
 obtain ⟨g, Hg⟩ := nm (w.heap.size)
 have B1 : Hid (Below w.heap.size w w1) := by rw [<- Hw1.out]; exact alloc1 w _
 have k1 : Hid (w1.heap[g]? = some (.cells A 24 (0, 0))) := by
  rw [<- Hw1.out, <- Hg.out]
  exact heap_alloc_new w _
 have A1 : Hid (Rw w1 lo hi 24 EId a n c X) := hA.out.below B1.out
 obtain ⟨p, Hp⟩ := nm (plcB (byF m) X)
 have Hpd : Hid (plcB (byF m) (X.map id) = p) := by rw [List.map_id]; exact Hp.out
 have pn : p <= n := by rw [<- Hp.out, LX.out]; exact plcB_le _ _
 have FD : Hid (Array.foldl (fun cs (x : Value × Nat) => cs.setIfInBounds x.snd x.fst) #[.int .i64 0,.int .i64 0,.int .i64 0] A.zipIdx 0 3 = A) := fold24 hy.out
 go_enter Tryz.func112, Tryz.ntmps112
 go_upto_region 1 with (fail)
 rw [Hw1.out, Hg.out]
 clear Hw1
 by_cases hb : isB (byF m) X = true
 . have HS : Hid (isB (byF m) X = true) := hb
   have HSd : Hid (isB (byF m) (X.map id) = true) := by rw [List.map_id]; exact hb
   have pl : p < n := by rw [<- Hp.out, LX.out]; exact isB_lt hb
   clear hb
   obtain ⟨b, rfl, _, _, _⟩ := A1.out.at_ (i := p) (by rw [<- LX.out]; exact pl)
   go_upto_region 4 with (go_at_call 109; refine (findF m A1 (by omega)).mono ?_; rintro e w2 ⟨rfl, H2⟩; rw [Hp.out, HS.out])
   clear pn
   have k2 := sh H2 k1
   have A2 : Hid (Rw w2 lo hi 24 EId (some ⟨b, 0, none⟩) n c X) := A1.out.below H2.out
   have T2 : Hid (w2.there b (p * 3) A.size) := by rw [az]; exact A2.out.thereAt pl
   go_wp2_with (first
    | (refine wpList_load_row (by rfl) 24 (.tmp 7) (by rfl) (g) (by rfl) 24 A (0, 0) _ k2.out Tryz.underlying24 rfl ai ?_)
    | (refine wpList_store_mid (by rfl) 24 (.tmp 28) (.tmp 27) (by rfl) b (p * 3) A (by rfl) (by rfl) T2.out ai AA.out ?_))
   go_ret
   refine ⟨_, n, c, rfl, ?_, ?_⟩
   . unfold setX
     rw [if_pos HSd.out, Hpd.out]
     have e : A.toList = EId.e y := by rw [hy.out]
     rw [e]
     exact (A2.out.setAt pl y).full
   . exact ((Ch.below B1.out).trans (Ch.below H2.out)).trans ((ch_setCells _ _ _).weak (fun q _ h => by rw [h]; rfl))
 . have HS : Hid (isB (byF m) X = false) := Bool.eq_false_iff.2 hb
   have HSd : Hid (¬ isB (byF m) (X.map id) = true) := by rw [List.map_id]; exact hb
   clear hb
   go_upto_region 3 with (go_at_call 109; refine (findF m A1 (by omega)).mono ?_; rintro e w2 ⟨rfl, H2⟩; rw [Hp.out, HS.out])
   have k2 := sh H2 k1
   obtain ⟨gv, Hgv⟩ := nm (w2.heap.size)
   obtain ⟨w3, Hw3⟩ := nm (w2.alloc (.cells A 24))
   have b3 : Hid (Below w2.heap.size w2 w3) := by rw [<- Hw3.out]; exact alloc1 w2 _
   have k3 : Hid (w3.heap[gv]? = some (.cells (EId.e y).toArray 24 (0, 0))) := by rw [<- Hw3.out, <- Hgv.out, <- hy.out]; exact heap_alloc_new w2 _
   have B3 : Hid (Below w.heap.size w w3) := (B1.out.trans (H2.out.mono B1.out.size)).trans (b3.out.mono (Nat.le_trans B1.out.size H2.out.size))
   have A3 : Hid (Rw w3 lo hi 24 EId a n c X) := hA.out.below B3.out
   have L3 : lo <= w3.heap.size := Nat.le_trans hlo B3.out.size
   have SX : Hid (setX (byF m) id X y = X.take p ++ y :: X.drop p) := by show _ = _; unfold setX; rw [if_neg HSd.out, Hpd.out]
   clear b3
   by_cases hpn : p < n
   . by_cases hcn : c = n
     . subst hcn
       go_wp2_with (first
        | (refine wpList_load_row (by rfl) 24 (.tmp 7) (by rfl) (g) (by rfl) 24 A (0, 0) _ k2.out Tryz.underlying24 rfl ai ?_)
        | (go_at_call 134; rw [FD.out, Hw3.out, Hgv.out]; refine (insF A3 (by omega) hpn k3).mono ?_; rintro e w4 ⟨a', c', rfl, H4⟩))
       go_ret
       refine ⟨a', c + 1, c', rfl, ?_, (Ch.below B3.out).trans (Ch.below H4.out.2)⟩
       rw [SX.out]
       exact H4.out.1.mono L3 (Nat.le_refl _)
     . obtain ⟨b, rfl, _, hbl, _⟩ := hA.out.at_ (i := p) (by rw [<- LX.out]; exact hpn)
       have hcc : n + 1 <= c := by have := hA.out.cap; omega
       have hne : gv ≠ b := by have := Hgv.out; have := B1.out.size; have := H2.out.size; omega
       go_wp2_with (first
        | (refine wpList_load_row (by rfl) 24 (.tmp 7) (by rfl) (g) (by rfl) 24 A (0, 0) _ k2.out Tryz.underlying24 rfl ai ?_)
        | (go_at_call 134; rw [FD.out, Hw3.out, Hgv.out]; refine (insR_F A3 (by omega) hpn hcc k3 hne).mono ?_; rintro e w4 ⟨rfl, H4⟩))
       go_ret
       refine ⟨_, n + 1, c, rfl, ?_, (Ch.below B3.out).trans (H4.out.2.weak (fun q _ h => by rw [h]; rfl))⟩
       rw [SX.out]
       exact H4.out.1.full
   . obtain rfl : p = n := by omega
     go_wp2_with (first
      | (refine wpList_load_row (by rfl) 24 (.tmp 7) (by rfl) (g) (by rfl) 24 A (0, 0) _ k2.out Tryz.underlying24 rfl ai ?_)
      | (go_at_call 134; rw [FD.out, Hw3.out, Hgv.out]; refine (insEF A3 L3 hn k3).mono ?_; rintro e w4 ⟨a', c', rfl, H4⟩))
     go_ret
     refine ⟨a', p + 1, c', rfl, ?_, (Ch.below B3.out).trans H4.out.2⟩
     rw [SX.out, List.take_of_length_le (by have := LX.out; omega), List.drop_of_length_le (by have := LX.out; omega)]
     exact H4.out.1
end Go.Proofs.YtfabnnbljkkihaaGreatDoor
