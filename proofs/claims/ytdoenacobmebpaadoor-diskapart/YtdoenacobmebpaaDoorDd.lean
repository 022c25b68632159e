/- Rename, Delete, names and Crash of package disk. -/
import Derived.Test.YtdoenacobmebpaaDoorDc
namespace Go.Proofs.YtdoenacobmebpaaDoor
open Go.ChangeShapes Go.WideShapes Go.ChangeAt Go.RowKit Go.Maps Go.Sort Go.Shelf
set_option maxRecDepth 20000
set_option linter.unusedVariables false
set_option linter.unusedSimpArgs false
set_option maxHeartbeats 1000000 in
theorem rename_ok {w : World} {d m : Nat} {D : DataW Unit} {full : Bool} {lost : Int} (hD : Hid (Drv w d m D full lost)) (s t : ByteArray) (f : Fl) (hn : Hid (nm s = true)) (ht : Hid (nm t = true)) (hv : Hid (vw D s = some f)) :
    Calls Tryd.prog 17 #[.pointer (some ⟨d, 0, none⟩), .string s, .string t] w fun e w' => e = .returned .nilIface ∧ Hid (Drv w' d m ((D.del (kl s)).put (kl t) (fd f)) full lost ∧ ChD w w' d m) := by
  obtain ⟨x, y, c⟩ := f
  have s63 : s.size ≤ 63 := nm_le hn.out
  have t63 : t.size ≤ 63 := nm_le ht.out
  have hz : Hid (Maps.size ((D.del (kl s)).put (kl t) (fd ⟨x, y, c⟩)) ≤ 512) := by
    have e1 := size_del (k := kl s) hD.out.tidy
    have e2 : Maps.has D (kl s) = true := by rw [← vw_some, hv.out]; rfl
    rw [e2] at e1
    have e3 := hD.out.size
    show _ ≤ _
    rw [put_size (hD.out.tidy.del _)]
    simp at e1
    split <;> omega
  go_enter Tryd.func17, Tryd.ntmps17
  go_wp2_with (first
    | (go_at_call 37; refine (name_n t (by omega) _).mono ?_; rintro e w0 ⟨rfl, h00⟩; rw [h00, ht.out]; clear h00)
    | (go_at_call 38; refine (find_ok hD s ⟨x, y, c⟩ hn hv).mono ?_; rintro e w1 ⟨rfl, H1⟩
       have c0 : ∀ o, (w1.alloc o).cell? ⟨d, 0, none⟩ = some (.map (some m)) := fun o => ((hD.out.below H1.out).below (alloc1 w1 o)).c0
       have DA := (hD.out.below H1.out).below (alloc1 w1 (.cells #[.string x, .string y, .bool c] 69))
       obtain ⟨w2, DEL, D2, C2⟩ := drv_del DA (s := s) (by unfold maxLen; omega) 0
       have eg : w2.heap[w1.heap.size]? = (w1.alloc (.cells #[.string x, .string y, .bool c] 69)).heap[w1.heap.size]? := C2.block _ (by simp) (by have := (hD.out.below H1.out).lt; omega) (by have := (hD.out.below H1.out).mlt; omega)
       have q0 : w2.cell? ⟨w1.heap.size, 0, none⟩ = some (.string x) := (World.cell?_of_block (a := ⟨w1.heap.size, 0, none⟩) eg).trans (by simp)
       have q1 : w2.cell? ⟨w1.heap.size, 1, none⟩ = some (.string y) := (World.cell?_of_block (a := ⟨w1.heap.size, 1, none⟩) eg).trans (by simp)
       have q2 : w2.cell? ⟨w1.heap.size, 2, none⟩ = some (.bool c) := (World.cell?_of_block (a := ⟨w1.heap.size, 2, none⟩) eg).trans (by simp)
       have HD2 : Hid (Drv w2 d m (D.del (kl s)) full lost) := D2
       have HC2 : Hid (ChD w w2 d m) := ((ChD.of_below H1.out).trans (ChD.of_below (alloc1 w1 _))).trans C2
       clear DA D2 C2 eg)
    | (go_at_call 36; refine (keep_n HD2 t ht ⟨x, y, c⟩ hz).mono ?_; rintro e w3 ⟨rfl, H3⟩))
  go_ret
  exact ⟨rfl, H3.out.1, HC2.out.trans H3.out.2⟩
set_option maxHeartbeats 1000000 in
theorem delete_ok {w : World} {d m : Nat} {D : DataW Unit} {full : Bool} {lost : Int} (hD : Hid (Drv w d m D full lost)) (s : ByteArray) (f : Fl) (hn : Hid (nm s = true)) (hv : Hid (vw D s = some f)) :
    Calls Tryd.prog 15 #[.pointer (some ⟨d, 0, none⟩), .string s] w fun e w' => e = .returned .nilIface ∧ Hid (Drv w' d m (D.del (kl s)) full lost ∧ ChD w w' d m) := by
  obtain ⟨x, y, c⟩ := f
  have s63 : s.size ≤ 63 := nm_le hn.out
  go_enter Tryd.func15, Tryd.ntmps15
  go_wp2_with (first
    | (go_at_call 38; refine (find_ok hD s ⟨x, y, c⟩ hn hv).mono ?_; rintro e w1 ⟨rfl, H1⟩
       have c0 : ∀ o, (w1.alloc o).cell? ⟨d, 0, none⟩ = some (.map (some m)) := fun o => ((hD.out.below H1.out).below (alloc1 w1 o)).c0
       have DA := (hD.out.below H1.out).below (alloc1 w1 (.cells #[.string x, .string y, .bool c] 69))
       obtain ⟨w2, DEL, D2, C2⟩ := drv_del DA (s := s) (by unfold maxLen; omega) 0
       have HD2 : Hid (Drv w2 d m (D.del (kl s)) full lost) := D2
       have HC2 : Hid (ChD w w2 d m) := ((ChD.of_below H1.out).trans (ChD.of_below (alloc1 w1 _))).trans C2
       clear DA D2 C2))
  go_ret
  exact ⟨rfl, HD2.out, HC2.out⟩
set_option maxHeartbeats 1000000 in
theorem delete_gone {w : World} {d m : Nat} {D : DataW Unit} {full : Bool} {lost : Int} (hD : Hid (Drv w d m D full lost)) (s : ByteArray) {E : Nat → Addr} (hE : Hid (Er w E)) (hn : Hid (nm s = true)) (hv : Hid (vw D s = none)) :
    Calls Tryd.prog 15 #[.pointer (some ⟨d, 0, none⟩), .string s] w fun e w' => e = .returned (er (E 8)) ∧ Hid (Below w.heap.size w w') := by
  go_enter Tryd.func15, Tryd.ntmps15
  go_wp2_with (go_at_call 38; refine (find_gone hD s hE hn hv).mono ?_; rintro e w1 ⟨rfl, H1⟩)
  go_ret
  exact ⟨rfl, H1.out.trans ((alloc1 w1 _).mono H1.out.size)⟩
set_option maxHeartbeats 1000000 in
theorem sync_gone {w : World} {d m : Nat} {D : DataW Unit} {full : Bool} {lost : Int} (hD : Hid (Drv w d m D full lost)) (s : ByteArray) {E : Nat → Addr} (hE : Hid (Er w E)) (hn : Hid (nm s = true)) (hv : Hid (vw D s = none)) :
    Calls Tryd.prog 14 #[.pointer (some ⟨d, 0, none⟩), .string s] w fun e w' => e = .returned (er (E 8)) ∧ Hid (Below w.heap.size w w') := by
  go_enter Tryd.func14, Tryd.ntmps14
  go_wp2_with (go_at_call 38; refine (find_gone hD s hE hn hv).mono ?_; rintro e w1 ⟨rfl, H1⟩)
  go_ret
  exact ⟨rfl, H1.out.trans ((alloc1 w1 _).mono H1.out.size)⟩
/- the keys, sorted -/
theorem sorts48 (k : Nat) : AnyZ.SortsIn Tryd.prog Tryd.sorted48_ren Fence.wide k :=
  ⟨fun blk off cap ss W hH hblk hsz => callsIn_wide.2 (AnyM.slices_Sort_string Tryd.sort53 blk off cap ss W hH hblk hsz), fun p cap W => callsIn_wide.2 (AnyM.slices_Sort_string_none Tryd.sort53 p cap W)⟩
theorem keys49 (mb : Option Nat) (W : World) : CallsIn Fence.wide 5 Tryd.prog 49 #[.map mb] W fun e w' => e = .returned (.func (.func 54) #[] #[.pointer (some ⟨W.heap.size, 0, none⟩)]) ∧ w' = W.alloc (.cells #[.map mb] 54) :=
  AnyZ.keys_in Tryd.keys49 Fence.wide 5 trivial rfl mb W
set_option maxHeartbeats 1000000 in
theorem sorted48 {m n : Nat} {D : DataW Unit} {w : World} (hown : w.ownsMap Tryd.prog 9 Rf m n D) (hz : Maps.size D ≤ 512) :
    CallsIn Fence.wide 5 Tryd.prog 48 #[.func (.func 54) #[] #[.pointer (some ⟨w.heap.size, 0, none⟩)]] (w.alloc (.cells #[.map (some m)] 54)) fun e w' => ∃ (v : Value) (ss : List (List UInt8)), e = .returned v ∧ ss.Perm (strKeys D) ∧
      w'.ownsRow (w.alloc (.cells #[.map (some m)] 54)).heap.size 9 1 v ss.length ((ss.mergeSort (fun x y => decide (x ≤ y))).map encStr) ∧ (v = .slice none 0 0 ↔ ss = []) ∧ Below (w.alloc (.cells #[.map (some m)] 54)).heap.size (w.alloc (.cells #[.map (some m)] 54)) w' := by
  have hbl := hown.lt
  have hseq : SeqGives Fence.wide 2 Tryd.prog 54 #[.pointer (some ⟨w.heap.size, 0, none⟩)] encStr (fun ss => ss.Perm (strKeys D)) (Maps.size D) (w.alloc (.cells #[.map (some m)] 54)) :=
    AnyZ.keys_gives (ρ := Tryd.keys49_ren) { Tryd.keys49 with } Fence.wide _ trivial rfl (by omega) w.heap.size m n D _ (by simp) (by simp) (hown.alloc _)
  exact AnyZ.sorted_in Tryd.sorted48 Fence.wide 5 trivial trivial trivial trivial rfl (by omega) (sorts48 _) (enters_of Tryd.func53 (by kernel_rfl) rfl) 54 #[.pointer (some ⟨w.heap.size, 0, none⟩)] trivial (enters_of Tryd.func54 (by kernel_rfl) rfl) _ _ (by unfold maxLen; omega) (by omega) _ hseq
/- a slice of names of the call's own -/
structure Kn (w : World) (B : Nat) (a : Option Addr) (k : Nat) (ks : List ByteArray) : Prop where
  len : k = ks.length
  row : ks = [] ∨ ∃ g cs, a = some ⟨g, 0, none⟩ ∧ B ≤ g ∧ w.heap[g]? = some (.cells cs 9 (0, 0)) ∧ ∀ i (h : i < ks.length), cs[i]? = some (.string ks[i])
theorem Kn.at_ {w : World} {B : Nat} {a : Option Addr} {k : Nat} {ks : List ByteArray} (h : Kn w B a k ks) {i : Nat} (hi : i < k) : ∃ g, a = some ⟨g, 0, none⟩ ∧ B ≤ g ∧ g < w.heap.size ∧ w.cell? ⟨g, i, none⟩ = some (.string (ks[i]'(by have := h.len; omega))) := by
  have hl := h.len
  rcases h.row with h1 | ⟨g, cs, h1, h2, h3, h4⟩
  · rw [h1] at hl; simp at hl; omega
  · exact ⟨g, h1, h2, (Array.getElem?_eq_some_iff.1 h3).1, by simp [World.cell?, h3, h4 i (by omega)]⟩
theorem Kn.keep {w w' : World} {B : Nat} {a : Option Addr} {k : Nat} {ks : List ByteArray} (h : Kn w B a k ks) (hb : ∀ g, B ≤ g → g < w.heap.size → w'.heap[g]? = w.heap[g]?) : Kn w' B a k ks := by
  refine ⟨h.len, h.row.imp id ?_⟩
  rintro ⟨g, cs, h1, h2, h3, h4⟩
  exact ⟨g, cs, h1, h2, (hb g h2 (Array.getElem?_eq_some_iff.1 h3).1).trans h3, h4⟩
/- the names of a map, rising -/
def rise (D : DataW Unit) : List ByteArray := ((strKeys D).mergeSort (fun x y => decide (x ≤ y))).map fun x => ⟨x.toArray⟩
set_option maxHeartbeats 1000000 in
theorem names_n {w : World} {d m : Nat} {D : DataW Unit} {full : Bool} {lost : Int} (hD : Hid (Drv w d m D full lost)) :
    Calls Tryd.prog 35 #[.pointer (some ⟨d, 0, none⟩)] w fun e w' => ∃ a k c ks, e = .returned (.slice a k c) ∧ Hid (Kn w' w.heap.size a k ks ∧ (∃ ss : List (List UInt8), ss.Perm (strKeys D) ∧ ks = (ss.mergeSort (fun x y => decide (x ≤ y))).map fun x => ⟨x.toArray⟩) ∧ Below w.heap.size w w') := by
  refine (callsIn_wide (n := 6)).1 ?_
  have hfK : Fence.wide.fn 49 := trivial
  have hfS : Fence.wide.fn 48 := trivial
  have c0 := hD.out.c0
  have hz := hD.out.size
  refine callsIn_of_wp Tryd.func35 rfl trivial ?_ rfl
  simp only [Tryd.ntmps35, List.size_toArray, List.length_cons, List.length_nil, Nat.reduceAdd, Nat.reduceSub, Array.replicate_succ, Array.replicate_zero, List.push_toArray, List.append_toArray, List.nil_append, List.cons_append]
  gi_wp2_with (first
    | (gi_at_call 49; refine (keys49 _ _).mono ?_; rintro e w' ⟨rfl, rfl⟩)
    | (gi_at_call 48; refine (sorted48 hD.out.own hz).mono ?_; rintro e w1 ⟨v, ss, rfl, hS, hrow, hnil, hb⟩))
  go_ret
  have B1 : Below w.heap.size w w1 := (alloc1 w _).trans (hb.mono (by simp))
  have e1 : ((ss.mergeSort (fun x y => decide (x ≤ y))).map fun x => (⟨x.toArray⟩ : ByteArray)).length = ss.length := by simp
  rcases hrow.2 with ⟨h1, h2⟩ | ⟨g, cap, cur, h1, h2, h3, _, _, _, h4⟩
  · have h0 : ss = [] := List.length_eq_zero_iff.1 h2
    refine ⟨none, 0, 0, [], by rw [← h1]; rfl, ⟨rfl, .inl rfl⟩, ⟨ss, hS, by rw [h0]; simp⟩, B1⟩
  · refine ⟨_, _, _, _, by rw [← h1]; rfl, ⟨e1.symm, .inr ⟨g, cur, rfl, ?_, h3, fun i hi => ?_⟩⟩, ⟨ss, hS, rfl⟩, B1⟩
    · simp at h2; omega
    · rw [Nat.mul_one] at h4
      have hi2 : i < ss.length := by rw [e1] at hi; exact hi
      have h5 : (cur.toList.take ss.length)[i]? = cur.toList[i]? := List.getElem?_take_of_lt hi2
      have h6 : cur.toList[i]? = cur[i]? := by simp
      rw [h4] at h5
      rw [← h6, ← h5]
      simp only [List.getElem?_map, List.getElem_map]
      rw [List.getElem?_eq_getElem (by simpa using hi2)]
      rfl
end Go.Proofs.YtdoenacobmebpaaDoor
