/- find of package disk: the file, or the error that tells why there is none. -/
import Derived.Test.YtdoenacobmebpaaDoorDb
import Derived.Laws.IdiomStrings
import Derived.Laws.Concat
namespace Go.Proofs.YtdoenacobmebpaaDoor
open Go.ChangeShapes Go.WideShapes Go.ChangeAt Go.RowKit
set_option maxRecDepth 20000
set_option linter.unusedVariables false
set_option linter.unusedSimpArgs false
/- the three errors that a drive answers -/
def Er (w : World) (E : Nat → Addr) : Prop := ∀ g, g = 0 ∨ g = 1 ∨ g = 8 → w.cell? ⟨g, 0, none⟩ = some (er (E g))
theorem Er.below {w w' : World} {E : Nat → Addr} (h : Er w E) (hb : Below w.heap.size w w') : Er w' E := fun g hg => (hb.cell (p := ⟨g, 0, none⟩) (cell_lt (h g hg))).trans (h g hg)
theorem er_of {W : World} {laid : List (String × DataW Unit)} (l : List (String × Nat × List UInt8)) (hl : laid = named l) (hp : laid.all (fun x => x.2.handleName?.isNone) = true) (hg : ∀ v ∈ l, Tryd.prog.globalNamed v.1 = some v.2.1 ∧ (Tryd.prog.globals[v.2.1]?).map (·.type) = some 41)
    (hnd : (l.map (·.2.1)).Nodup) (hM : ∀ g, g = 0 ∨ g = 1 ∨ g = 8 → ∃ v ∈ l, v.2.1 = g) (h : laidMetH Tryd.prog laid W) : ∃ E, Er W E := by
  rw [MakeChecks.laidMetH_plain _ _ _ hp, hl] at h
  obtain ⟨ps, h1, h2, h3⟩ := h
  obtain ⟨E, hE⟩ := sent_ind l ps hg hnd h1 h2 (fun b off hm => (h3 b off hm).2)
  refine ⟨E, fun g hg => ?_⟩
  obtain ⟨v, hv, rfl⟩ := hM g hg
  exact (hE v hv).1
theorem alloc1 (w : World) (o : Obj) : Below w.heap.size w (w.alloc o) := (Below.refl _ w).alloc (Nat.le_refl _) _
theorem alloc2 (w : World) (o o2 : Obj) : Below w.heap.size w ((w.alloc o).alloc o2) := (alloc1 w o).alloc (by simp) _
def bytesOf (s : ByteArray) : List Nat := s.data.toList.map UInt8.toNat
theorem bytesOf_length (s : ByteArray) : (bytesOf s).length = s.size := by
  unfold bytesOf
  rw [List.length_map, Array.length_toList]
  rfl
theorem bytesOf_lt (s : ByteArray) : ∀ x ∈ bytesOf s, x < 256 := by
  intro x hx
  obtain ⟨b, _, rfl⟩ := List.mem_map.1 hx
  exact b.toNat_lt
theorem bytesOf_append (a b : ByteArray) : bytesOf (a ++ b) = bytesOf a ++ bytesOf b := by simp [bytesOf]
theorem bytesOf_spell {l : List Nat} (h : ∀ x ∈ l, x < 256) : bytesOf (spell l) = l := by
  unfold bytesOf
  rw [spell_data]
  exact ofNat_back h
theorem spell_bytesOf (s : ByteArray) : spell (bytesOf s) = s := by
  have h : (spell (bytesOf s)).data.toList = s.data.toList := by
    rw [spell_data]
    unfold bytesOf
    rw [List.map_map]
    conv => rhs; rw [← List.map_id s.data.toList]
    refine List.map_congr_left fun x _ => ?_
    simp
  have h2 : (spell (bytesOf s)).data = s.data := by
    apply Array.ext'
    exact h
  cases hs : spell (bytesOf s)
  cases s
  rw [hs] at h2
  simp only at h2
  rw [h2]
/- what '[]byte(s)' lays -/
def cvC (X : World) (s : ByteArray) : Nat := grownCap X s.size 0 5
def cvW (X : World) (s : ByteArray) : World := X.drew.alloc (.cells (bytesRow s (cvC X s)) 5 ((bytesRow s (cvC X s)).size, (bytesRow s (cvC X s)).size + 1))
theorem run_cv (X : World) (s : ByteArray) : (convert 9 32 (.string s)).run Tryd.prog X = .ok (.slice (some ⟨X.heap.size, 0, none⟩) s.size (cvC X s)) (cvW X s) := run_bytes_of_string X 9 32 5 s Tryd.underlying9 Tryd.underlying32 Tryd.underlying5
theorem cvC_ge (X : World) (s : ByteArray) : s.size ≤ cvC X s := grownCap_ge X s.size 0 5
theorem cvW_below (X : World) (s : ByteArray) : Below X.heap.size X (cvW X s) := by
  have h1 : Below X.heap.size X X.drew := below_drewN (Below.refl _ _) 1
  exact h1.alloc (Nat.le_refl _) _
theorem cvW_sln (X : World) (s : ByteArray) (h : s.size ≤ 140737488352256) : Sln (cvW X s) (some ⟨X.heap.size, 0, none⟩) s.size (bytesOf s) := by
  refine ⟨(bytesOf_length s).symm, bytesOf_lt s, by rw [bytesOf_length]; exact h, .inr ⟨X.heap.size, 0, rfl, by simp [cvW], fun i hi => ?_⟩⟩
  have hi2 : i < s.data.size := by rw [bytesOf_length] at hi; exact hi
  have hb : (cvW X s).heap[X.heap.size]? = some (.cells (bytesRow s (cvC X s)) 5 ((bytesRow s (cvC X s)).size, (bytesRow s (cvC X s)).size + 1)) := heap_alloc_new X.drew _
  have hr := bytesRow_at s (cvC X s) i hi2
  rw [Nat.zero_add]
  unfold World.cell?
  rw [hb]
  have e : (bytesOf s).getD i 0 = (s.data[i]).toNat := by
    have h3 : i < s.data.toList.length := by simpa using hi2
    simp [bytesOf, List.getD]
    rw [Array.getElem?_eq_getElem hi2]
    rfl
  rw [e]
  simp [hr]
set_option maxHeartbeats 1000000 in
theorem find_ok {w : World} {d m : Nat} {D : DataW Unit} {full : Bool} {lost : Int} (hD : Hid (Drv w d m D full lost)) (s : ByteArray) (f : Fl) (hn : Hid (nm s = true)) (hv : Hid (vw D s = some f)) :
    Calls Tryd.prog 38 #[.pointer (some ⟨d, 0, none⟩), .string s] w fun e w' => e = .returned (.tuple #[fv f, .nilIface]) ∧ Hid (Below w.heap.size w w') := by
  obtain ⟨x, y, c⟩ := f
  have s63 : s.size ≤ 63 := nm_le hn.out
  have c0 : ∀ o, (w.alloc o).cell? ⟨d, 0, none⟩ = some (.map (some m)) := fun o => (hD.out.below (alloc1 w o)).c0
  have hL : ∀ o, (Instr.lookup 54 (.map (some m)) (.string s) true).run Tryd.prog (w.alloc o) = .ok (.tuple #[.agg #[.string x, .string y, .bool c], .bool true]) (w.alloc o) := fun o => by
    have h := look_t (hD.out.below (alloc1 w o)).own (s := s) (by unfold maxLen; omega)
    rw [hv.out] at h
    exact h
  go_enter Tryd.func38, Tryd.ntmps38
  go_wp2_with (go_at_call 37; refine (name_n s (by omega) _).mono ?_; rintro e w0 ⟨rfl, h00⟩; rw [h00, hn.out]; clear h00)
  refine bodyPost_ret (v := .tuple #[.agg #[.string x, .string y, .bool c], .nilIface]) (by simp [results, Tryd.results38, go_sem]) rfl ⟨rfl, ?_⟩
  exact alloc2 w _ _
set_option maxHeartbeats 1000000 in
theorem find_gone {w : World} {d m : Nat} {D : DataW Unit} {full : Bool} {lost : Int} (hD : Hid (Drv w d m D full lost)) (s : ByteArray) {E : Nat → Addr} (hE : Hid (Er w E)) (hn : Hid (nm s = true)) (hv : Hid (vw D s = none)) :
    Calls Tryd.prog 38 #[.pointer (some ⟨d, 0, none⟩), .string s] w fun e w' => e = .returned (.tuple #[fv f0, er (E 8)]) ∧ Hid (Below w.heap.size w w') := by
  have s63 : s.size ≤ 63 := nm_le hn.out
  have c0 : ∀ o, (w.alloc o).cell? ⟨d, 0, none⟩ = some (.map (some m)) := fun o => (hD.out.below (alloc1 w o)).c0
  have g8 : ∀ o o2, ((w.alloc o).alloc o2).cell? ⟨8, 0, none⟩ = some (er (E 8)) := fun o o2 => (hE.out.below (alloc2 w o o2)) 8 (by omega)
  have hL : ∀ o, (Instr.lookup 54 (.map (some m)) (.string s) true).run Tryd.prog (w.alloc o) = .ok (.tuple #[.agg #[.string ⟨#[]⟩, .string ⟨#[]⟩, .bool false], .bool false]) (w.alloc o) := fun o => by
    have h := look_t (hD.out.below (alloc1 w o)).own (s := s) (by unfold maxLen; omega)
    rw [hv.out] at h
    exact h
  go_enter Tryd.func38, Tryd.ntmps38
  go_wp2_with (go_at_call 37; refine (name_n s (by omega) _).mono ?_; rintro e w0 ⟨rfl, h00⟩; rw [h00, hn.out]; clear h00)
  go_region
  all_goals
    go_wp2
    refine bodyPost_ret (v := .tuple #[fv f0, er (E 8)]) (by simp [results, Tryd.results38, go_sem, f0]) rfl ⟨rfl, ?_⟩
    exact (alloc2 w _ _).drew
set_option maxHeartbeats 1000000 in
theorem find_name {w : World} {d m : Nat} {D : DataW Unit} {full : Bool} {lost : Int} (hD : Hid (Drv w d m D full lost)) (s : ByteArray) (hs : s.size ≤ 9223372036854775807) {E : Nat → Addr} (hE : Hid (Er w E)) (hn : Hid (nm s = false)) :
    Calls Tryd.prog 38 #[.pointer (some ⟨d, 0, none⟩), .string s] w fun e w' => e = .returned (.tuple #[fv f0, er (E 0)]) ∧ Hid (Below w.heap.size w w') := by
  have g0 : ∀ o, (w.alloc o).cell? ⟨0, 0, none⟩ = some (er (E 0)) := fun o => (hE.out.below (alloc1 w o)) 0 (by omega)
  go_enter Tryd.func38, Tryd.ntmps38
  go_wp2_with (go_at_call 37; refine (name_n s hs _).mono ?_; rintro e w0 ⟨rfl, h00⟩; rw [h00, hn.out]; clear h00)
  go_region
  all_goals
    go_wp2
    refine bodyPost_ret (v := .tuple #[fv f0, er (E 0)]) (by simp [results, Tryd.results38, go_sem, f0]) rfl ⟨rfl, ?_⟩
    exact (alloc1 w _).drew
theorem new_n (w : World) : Calls Tryd.prog 8 #[] w fun e w' => ∃ d m, e = .returned (.pointer (some ⟨d, 0, none⟩)) ∧ Hid (Drv w' d m (.map []) false 0 ∧ w.heap.size ≤ d ∧ w.heap.size ≤ m ∧ Below w.heap.size w w') := by
  have hmm := @run_makeMap Tryd.prog
  go_enter Tryd.func8, Tryd.ntmps8
  go_wp2
  go_ret
  refine ⟨w.heap.size + 1, w.heap.size, rfl, ⟨?_, ?_, by decide, fun s h => by cases h⟩, ?_, ?_, alloc2 w _ _⟩
  · have h := World.alloc_heap_new (w.alloc (.map #[] 0)) (.cells #[.map (some w.heap.size), .bool false, .int .i64 0] 56)
    rw [World.size_alloc] at h
    exact h
  · exact (World.ownsMap_made w Tryd.prog 9 Rf).alloc _
  · omega
  · exact Nat.le_refl _
set_option maxHeartbeats 1000000 in
theorem read_ok {w : World} {d m : Nat} {D : DataW Unit} {full : Bool} {lost : Int} (hD : Hid (Drv w d m D full lost)) (s : ByteArray) (f : Fl) (hn : Hid (nm s = true)) (hv : Hid (vw D s = some f)) (hb : f.b.size ≤ 140737488352256) :
    Calls Tryd.prog 16 #[.pointer (some ⟨d, 0, none⟩), .string s] w fun e w' => ∃ g k c, e = .returned (.tuple #[.slice (some ⟨g, 0, none⟩) k c, .nilIface]) ∧ Hid (Sln w' (some ⟨g, 0, none⟩) k (bytesOf f.b) ∧ Below w.heap.size w w' ∧ w.heap.size ≤ g ∧ k ≤ c) := by
  obtain ⟨x, y, c⟩ := f
  go_enter Tryd.func16, Tryd.ntmps16
  go_wp2_with (go_at_call 38; refine (find_ok hD s ⟨x, y, c⟩ hn hv).mono ?_; rintro e w1 ⟨rfl, H1⟩
               have CV := run_cv (w1.alloc (.cells #[.string x, .string y, .bool c] 69)) x)
  go_ret2
  have hs := cvW_sln (w1.alloc (.cells #[.string x, .string y, .bool c] 69)) x hb
  rw [World.size_alloc] at hs
  refine ⟨_, _, _, rfl, hs, ?_, ?_, cvC_ge _ _⟩
  · exact (H1.out.trans ((alloc1 w1 _).mono H1.out.size)).trans ((cvW_below _ x).mono (by have := H1.out.size; simp; omega))
  · have := H1.out.size; omega
set_option maxHeartbeats 1000000 in
theorem read_gone {w : World} {d m : Nat} {D : DataW Unit} {full : Bool} {lost : Int} (hD : Hid (Drv w d m D full lost)) (s : ByteArray) {E : Nat → Addr} (hE : Hid (Er w E)) (hn : Hid (nm s = true)) (hv : Hid (vw D s = none)) :
    Calls Tryd.prog 16 #[.pointer (some ⟨d, 0, none⟩), .string s] w fun e w' => e = .returned (.tuple #[.slice none 0 0, er (E 8)]) ∧ Hid (Below w.heap.size w w') := by
  go_enter Tryd.func16, Tryd.ntmps16
  go_wp2_with (go_at_call 38; refine (find_gone hD s hE hn hv).mono ?_; rintro e w1 ⟨rfl, H1⟩)
  go_ret2
  exact ⟨rfl, H1.out.trans ((alloc1 w1 _).mono H1.out.size)⟩
set_option maxHeartbeats 1000000 in
theorem sync_ok {w : World} {d m : Nat} {D : DataW Unit} {lost : Int} (hD : Hid (Drv w d m D false lost)) (s : ByteArray) (f : Fl) (hn : Hid (nm s = true)) (hv : Hid (vw D s = some f)) :
    Calls Tryd.prog 14 #[.pointer (some ⟨d, 0, none⟩), .string s] w fun e w' => e = .returned .nilIface ∧ Hid (Drv w' d m (D.put (kl s) (fd ⟨f.b, f.b, true⟩)) false lost ∧ ChD w w' d m) := by
  obtain ⟨x, y, c⟩ := f
  have s63 : s.size ≤ 63 := nm_le hn.out
  have hz : Hid (Maps.size (D.put (kl s) (fd ⟨x, x, true⟩)) ≤ 512) := by rw [put_size hD.out.tidy, hv.out]; exact hD.out.size
  go_enter Tryd.func14, Tryd.ntmps14
  go_wp2_with (first
    | (go_at_call 38; refine (find_ok hD s ⟨x, y, c⟩ hn hv).mono ?_; rintro e w1 ⟨rfl, H1⟩
       have c1 : ∀ o, (w1.alloc o).cell? ⟨d, 1, none⟩ = some (.bool false) := fun o => ((hD.out.below H1.out).below (alloc1 w1 o)).c1)
    | (go_at_call 39; refine (synced_n ⟨x, y, c⟩ _).mono ?_; rintro e w2 ⟨rfl, H2⟩
       have D2 : Hid (Drv w2 d m D false lost) := ((hD.out.below H1.out).below (alloc1 _ _)).below H2.out)
    | (go_at_call 36; refine (keep_n D2 s hn ⟨x, x, true⟩ hz).mono ?_; rintro e w3 ⟨rfl, H3⟩))
  go_ret
  exact ⟨rfl, H3.out.1, ((ChD.of_below H1.out).trans ((ChD.of_below (alloc1 w1 _)).trans (ChD.of_below H2.out))).trans H3.out.2⟩
set_option maxHeartbeats 1000000 in
theorem write_ok {w : World} {d m : Nat} {D : DataW Unit} {lost : Int} (hD : Hid (Drv w d m D false lost)) (s : ByteArray) {a : Option Addr} {n k : Nat} {l : List Nat} (hS : Hid (Sln w a n l)) (hn : Hid (nm s = true)) (hr : Hid ((vw D s).isSome = true ∨ Maps.size D < 512)) :
    Calls Tryd.prog 13 #[.pointer (some ⟨d, 0, none⟩), .string s, .slice a n k] w fun e w' => e = .returned .nilIface ∧ Hid (Drv w' d m (D.put (kl s) (fd ⟨spell l, ((vw D s).getD f0).s, ((vw D s).getD f0).h⟩)) false lost ∧ ChD w w' d m) := by
  have s63 : s.size ≤ 63 := nm_le hn.out
  have hz : Hid (∀ f, Maps.size (D.put (kl s) (fd f)) ≤ 512) := fun f => by
    rw [put_size hD.out.tidy]
    have h1 := hD.out.size
    have h2 := hr.out
    split <;> simp_all
    omega
  have c0 := hD.out.c0
  have c0' : ∀ o, (w.alloc o).cell? ⟨d, 0, none⟩ = some (.map (some m)) := fun o => (hD.out.below (alloc1 w o)).c0
  have c1 : ∀ o, (w.alloc o).cell? ⟨d, 1, none⟩ = some (.bool false) := fun o => (hD.out.below (alloc1 w o)).c1
  have cv : ∀ o, (convert 32 9 (.slice a n k)).run Tryd.prog (w.alloc o) = .ok (.string (spell l)) (w.alloc o) := fun o => conv_n (show Hid (Sln (w.alloc o) a n l) from hS.out.below (alloc1 w o))
  have DW : ∀ o, Hid (Drv (w.alloc o) d m D false lost) := fun o => hD.out.below (alloc1 w o)
  have hL := look_t hD.out.own (s := s) (by unfold maxLen; omega)
  have hl : ∀ o ty, (Builtin.len_ #[54] ty #[.map (some m)]).run Tryd.prog (w.alloc o) = .ok (.int .i64 (Maps.size D)) (w.alloc o) := fun o ty => (hD.out.below (alloc1 w o)).own.len Tryd.underlying54 ty
  cases hv : vw D s with
  | some f =>
    obtain ⟨x, y, c⟩ := f
    rw [hv] at hL
    have hL2 : (Instr.lookup 54 (.map (some m)) (.string s) true).run Tryd.prog w = .ok (.tuple #[.agg #[.string x, .string y, .bool c], .bool true]) w := hL
    clear hL hl
    go_enter Tryd.func13, Tryd.ntmps13
    go_wp2_with (first
      | (go_at_call 37; refine (name_n s (by omega) _).mono ?_; rintro e w0 ⟨rfl, h00⟩; rw [h00, hn.out]; clear h00)
      | (go_at_call 36; refine (keep_n (DW _) s hn ⟨spell l, y, c⟩ (hz.out _)).mono ?_; rintro e w3 ⟨rfl, H3⟩))
    go_ret
    exact ⟨rfl, H3.out.1, (ChD.of_below (alloc1 w _)).trans H3.out.2⟩
  | none =>
    rw [hv] at hL
    have hL2 : (Instr.lookup 54 (.map (some m)) (.string s) true).run Tryd.prog w = .ok (.tuple #[.agg #[.string ⟨#[]⟩, .string ⟨#[]⟩, .bool false], .bool false]) w := hL
    have h5 : Maps.size D < 512 := by
      have h2 := hr.out
      rw [hv] at h2
      simpa using h2
    obtain ⟨z, Hz⟩ : ∃ z, Hid (Maps.size D = z) := ⟨_, rfl⟩
    simp only [Hz.out] at hl
    have i1 : (z : Int) < 512 := by have := Hz.out; omega
    clear hL h5
    go_enter Tryd.func13, Tryd.ntmps13
    go_wp2_with (first
      | (go_at_call 37; refine (name_n s (by omega) _).mono ?_; rintro e w0 ⟨rfl, h00⟩; rw [h00, hn.out]; clear h00)
      | (go_at_call 36; refine (keep_n (DW _) s hn ⟨spell l, ⟨#[]⟩, false⟩ (hz.out _)).mono ?_; rintro e w3 ⟨rfl, H3⟩))
    go_ret
    exact ⟨rfl, H3.out.1, (ChD.of_below (alloc1 w _)).trans H3.out.2⟩
end Go.Proofs.YtdoenacobmebpaaDoor
