import Derived.Test.YtkdgakcmhnadfaaGreatDoorMDa
import Derived.Laws.IdiomStrings
import Derived.Laws.Concat
import Derived.Test.YtkdgakcmhnadfaaGreatDoorMBa
/- Dc -/
/- find of package disk: the file, or the error that tells why there is none. -/
/- errors turned -/
namespace Go.Proofs.YtkdgakcmhnadfaaGreatDoor
open Go.ChangeShapes Go.WideShapes Go.ChangeAt Go.RowKit
set_option maxRecDepth 20000
set_option linter.unusedVariables false
set_option linter.unusedSimpArgs false
/- the three errors that a drive answers -/
def Er (w : World) (E : Nat → Addr) : Prop := ∀ g, g = 8 ∨ g = 1 ∨ g = 3 → w.cell? ⟨g, 0, none⟩ = some (er (E g))
theorem Er.below {w w' : World} {E : Nat → Addr} (h : Er w E) (hb : Below w.heap.size w w') : Er w' E := fun g hg => (hb.cell (p := ⟨g, 0, none⟩) (cell_lt (h g hg))).trans (h g hg)
theorem er_of {W : World} {laid : List (String × DataW Unit)} (l : List (String × Nat × List UInt8)) (hl : laid = named l) (hp : laid.all (fun x => x.2.handleName?.isNone) = true) (hg : ∀ v ∈ l, Tryz.prog.globalNamed v.1 = some v.2.1 ∧ (Tryz.prog.globals[v.2.1]?).map (·.type) = some 26)
    (hnd : (l.map (·.2.1)).Nodup) (hM : ∀ g, g = 8 ∨ g = 1 ∨ g = 3 → ∃ v ∈ l, v.2.1 = g) (h : laidMetH Tryz.prog laid W) : ∃ E, Er W E := by
  rw [MakeChecks.laidMetH_plain _ _ _ hp, hl] at h
  obtain ⟨ps, h1, h2, h3⟩ := h
  obtain ⟨E, hE⟩ := sent_ind l ps hg hnd h1 h2 (fun b off hm => (h3 b off hm).2)
  refine ⟨E, fun g hg => ?_⟩
  obtain ⟨v, hv, rfl⟩ := hM g hg
  exact (hE v hv).1
theorem alloc1 (w : World) (o : Obj) : Below w.heap.size w (w.alloc o) := (Below.refl _ w).alloc (Nat.le_refl _) _
theorem alloc2 (w : World) (o o2 : Obj) : Below w.heap.size w ((w.alloc o).alloc o2) := (alloc1 w o).alloc (by simp) _
def bytesOf (s : ByteArray) : List Nat := s.data.toList.map UInt8.toNat
theorem bytesOf_length (s : ByteArray) : (bytesOf s).length = s.size := by
  unfold bytesOf
  rw [List.length_map, Array.length_toList]
  rfl
theorem bytesOf_lt (s : ByteArray) : ∀ x ∈ bytesOf s, x < 256 := by
  intro x hx
  obtain ⟨b, _, rfl⟩ := List.mem_map.1 hx
  exact b.toNat_lt
theorem bytesOf_append (a b : ByteArray) : bytesOf (a ++ b) = bytesOf a ++ bytesOf b := by simp [bytesOf]
theorem bytesOf_spell {l : List Nat} (h : ∀ x ∈ l, x < 256) : bytesOf (spell l) = l := by
  unfold bytesOf
  rw [spell_data]
  exact ofNat_back h
theorem spell_bytesOf (s : ByteArray) : spell (bytesOf s) = s := by
  have h : (spell (bytesOf s)).data.toList = s.data.toList := by
    rw [spell_data]
    unfold bytesOf
    rw [List.map_map]
    conv => rhs; rw [← List.map_id s.data.toList]
    refine List.map_congr_left fun x _ => ?_
    simp
  have h2 : (spell (bytesOf s)).data = s.data := by
    apply Array.ext'
    exact h
  cases hs : spell (bytesOf s)
  cases s
  rw [hs] at h2
  simp only at h2
  rw [h2]
/- what '[]byte(s)' lays -/
def cvC (X : World) (s : ByteArray) : Nat := grownCap X s.size 0 5
def cvW (X : World) (s : ByteArray) : World := X.drew.alloc (.cells (bytesRow s (cvC X s)) 5 ((bytesRow s (cvC X s)).size, (bytesRow s (cvC X s)).size + 1))
theorem run_cv (X : World) (s : ByteArray) : (convert 9 33 (.string s)).run Tryz.prog X = .ok (.slice (some ⟨X.heap.size, 0, none⟩) s.size (cvC X s)) (cvW X s) := run_bytes_of_string X 9 33 5 s Tryz.underlying9 Tryz.underlying33 Tryz.underlying5
theorem cvC_ge (X : World) (s : ByteArray) : s.size ≤ cvC X s := grownCap_ge X s.size 0 5
theorem cvW_below (X : World) (s : ByteArray) : Below X.heap.size X (cvW X s) := by
  have h1 : Below X.heap.size X X.drew := below_drewN (Below.refl _ _) 1
  exact h1.alloc (Nat.le_refl _) _
theorem cvW_sln (X : World) (s : ByteArray) (h : s.size ≤ 140737488352256) : Sln (cvW X s) (some ⟨X.heap.size, 0, none⟩) s.size (bytesOf s) := by
  refine ⟨(bytesOf_length s).symm, bytesOf_lt s, by rw [bytesOf_length]; exact h, .inr ⟨X.heap.size, 0, rfl, by simp [cvW], fun i hi => ?_⟩⟩
  have hi2 : i < s.data.size := by rw [bytesOf_length] at hi; exact hi
  have hb : (cvW X s).heap[X.heap.size]? = some (.cells (bytesRow s (cvC X s)) 5 ((bytesRow s (cvC X s)).size, (bytesRow s (cvC X s)).size + 1)) := heap_alloc_new X.drew _
  have hr := bytesRow_at s (cvC X s) i hi2
  rw [Nat.zero_add]
  unfold World.cell?
  rw [hb]
  have e : (bytesOf s).getD i 0 = (s.data[i]).toNat := by
    have h3 : i < s.data.toList.length := by simpa using hi2
    simp [bytesOf, List.getD]
    rw [Array.getElem?_eq_getElem hi2]
    rfl
  rw [e]
  simp [hr]
set_option maxHeartbeats 1000000 in
theorem find_ok {w : World} {d m : Nat} {D : DataW Unit} {full : Bool} {lost : Int} (hD : Hid (Drv w d m D full lost)) (s : ByteArray) (f : Fl) (hn : Hid (nm s = true)) (hv : Hid (vw D s = some f)) :
    Calls Tryz.prog 79 #[.pointer (some ⟨d, 0, none⟩), .string s] w fun e w' => e = .returned (.tuple #[fv f, .nilIface]) ∧ Hid (Below w.heap.size w w') := by
  obtain ⟨x, y, c⟩ := f
  have s63 : s.size ≤ 63 := nm_le hn.out
  have c0 : ∀ o, (w.alloc o).cell? ⟨d, 0, none⟩ = some (.map (some m)) := fun o => (hD.out.below (alloc1 w o)).c0
  have hL : ∀ o, (Instr.lookup 94 (.map (some m)) (.string s) true).run Tryz.prog (w.alloc o) = .ok (.tuple #[.agg #[.string x, .string y, .bool c], .bool true]) (w.alloc o) := fun o => by
    have h := look_t (hD.out.below (alloc1 w o)).own (s := s) (by unfold maxLen; omega)
    rw [hv.out] at h
    exact h
  go_enter Tryz.func79, Tryz.ntmps79
  go_wp2_with (go_at_call 75; refine (name_n s (by omega) _).mono ?_; rintro e w0 ⟨rfl, h00⟩; rw [h00, hn.out]; clear h00)
  refine bodyPost_ret (v := .tuple #[.agg #[.string x, .string y, .bool c], .nilIface]) (by simp [results, Tryz.results79, go_sem]) rfl ⟨rfl, ?_⟩
  exact alloc2 w _ _
set_option maxHeartbeats 1000000 in
theorem find_gone {w : World} {d m : Nat} {D : DataW Unit} {full : Bool} {lost : Int} (hD : Hid (Drv w d m D full lost)) (s : ByteArray) {E : Nat → Addr} (hE : Hid (Er w E)) (hn : Hid (nm s = true)) (hv : Hid (vw D s = none)) :
    Calls Tryz.prog 79 #[.pointer (some ⟨d, 0, none⟩), .string s] w fun e w' => e = .returned (.tuple #[fv f0, er (E 3)]) ∧ Hid (Below w.heap.size w w') := by
  have s63 : s.size ≤ 63 := nm_le hn.out
  have c0 : ∀ o, (w.alloc o).cell? ⟨d, 0, none⟩ = some (.map (some m)) := fun o => (hD.out.below (alloc1 w o)).c0
  have g8 : ∀ o o2, ((w.alloc o).alloc o2).cell? ⟨3, 0, none⟩ = some (er (E 3)) := fun o o2 => (hE.out.below (alloc2 w o o2)) 3 (by omega)
  have hL : ∀ o, (Instr.lookup 94 (.map (some m)) (.string s) true).run Tryz.prog (w.alloc o) = .ok (.tuple #[.agg #[.string ⟨#[]⟩, .string ⟨#[]⟩, .bool false], .bool false]) (w.alloc o) := fun o => by
    have h := look_t (hD.out.below (alloc1 w o)).own (s := s) (by unfold maxLen; omega)
    rw [hv.out] at h
    exact h
  go_enter Tryz.func79, Tryz.ntmps79
  go_wp2_with (go_at_call 75; refine (name_n s (by omega) _).mono ?_; rintro e w0 ⟨rfl, h00⟩; rw [h00, hn.out]; clear h00)
  go_region
  all_goals
    go_wp2
    refine bodyPost_ret (v := .tuple #[fv f0, er (E 3)]) (by simp [results, Tryz.results79, go_sem, f0]) rfl ⟨rfl, ?_⟩
    exact (alloc2 w _ _).drew
set_option maxHeartbeats 1000000 in
theorem find_name {w : World} {d m : Nat} {D : DataW Unit} {full : Bool} {lost : Int} (hD : Hid (Drv w d m D full lost)) (s : ByteArray) (hs : s.size ≤ 9223372036854775807) {E : Nat → Addr} (hE : Hid (Er w E)) (hn : Hid (nm s = false)) :
    Calls Tryz.prog 79 #[.pointer (some ⟨d, 0, none⟩), .string s] w fun e w' => e = .returned (.tuple #[fv f0, er (E 8)]) ∧ Hid (Below w.heap.size w w') := by
  have g0 : ∀ o, (w.alloc o).cell? ⟨8, 0, none⟩ = some (er (E 8)) := fun o => (hE.out.below (alloc1 w o)) 8 (by omega)
  go_enter Tryz.func79, Tryz.ntmps79
  go_wp2_with (go_at_call 75; refine (name_n s hs _).mono ?_; rintro e w0 ⟨rfl, h00⟩; rw [h00, hn.out]; clear h00)
  go_region
  all_goals
    go_wp2
    refine bodyPost_ret (v := .tuple #[fv f0, er (E 8)]) (by simp [results, Tryz.results79, go_sem, f0]) rfl ⟨rfl, ?_⟩
    exact (alloc1 w _).drew
theorem dnew_n (w : World) : Calls Tryz.prog 28 #[] w fun e w' => ∃ d m, e = .returned (.pointer (some ⟨d, 0, none⟩)) ∧ Hid (Drv w' d m (.map []) false 0 ∧ w.heap.size ≤ d ∧ w.heap.size ≤ m ∧ Below w.heap.size w w') := by
  have hmm := @run_makeMap Tryz.prog
  go_enter Tryz.func28, Tryz.ntmps28
  go_wp2
  go_ret
  refine ⟨w.heap.size + 1, w.heap.size, rfl, ⟨?_, ?_, by decide, fun s h => by cases h⟩, ?_, ?_, alloc2 w _ _⟩
  · have h := World.alloc_heap_new (w.alloc (.map #[] 0)) (.cells #[.map (some w.heap.size), .bool false, .int .i64 0] 96)
    rw [World.size_alloc] at h
    exact h
  · exact (World.ownsMap_made w Tryz.prog 9 Rf).alloc _
  · omega
  · exact Nat.le_refl _
set_option maxHeartbeats 1000000 in
theorem read_ok {w : World} {d m : Nat} {D : DataW Unit} {full : Bool} {lost : Int} (hD : Hid (Drv w d m D full lost)) (s : ByteArray) (f : Fl) (hn : Hid (nm s = true)) (hv : Hid (vw D s = some f)) (hb : f.b.size ≤ 140737488352256) :
    Calls Tryz.prog 58 #[.pointer (some ⟨d, 0, none⟩), .string s] w fun e w' => ∃ g k c, e = .returned (.tuple #[.slice (some ⟨g, 0, none⟩) k c, .nilIface]) ∧ Hid (Sln w' (some ⟨g, 0, none⟩) k (bytesOf f.b) ∧ Below w.heap.size w w' ∧ w.heap.size ≤ g ∧ k ≤ c) := by
  obtain ⟨x, y, c⟩ := f
  go_enter Tryz.func58, Tryz.ntmps58
  go_wp2_with (go_at_call 79; refine (find_ok hD s ⟨x, y, c⟩ hn hv).mono ?_; rintro e w1 ⟨rfl, H1⟩
               have CV := run_cv (w1.alloc (.cells #[.string x, .string y, .bool c] 100)) x)
  go_ret2
  have hs := cvW_sln (w1.alloc (.cells #[.string x, .string y, .bool c] 100)) x hb
  rw [World.size_alloc] at hs
  refine ⟨_, _, _, rfl, hs, ?_, ?_, cvC_ge _ _⟩
  · exact (H1.out.trans ((alloc1 w1 _).mono H1.out.size)).trans ((cvW_below _ x).mono (by have := H1.out.size; simp; omega))
  · have := H1.out.size; omega
set_option maxHeartbeats 1000000 in
theorem read_gone {w : World} {d m : Nat} {D : DataW Unit} {full : Bool} {lost : Int} (hD : Hid (Drv w d m D full lost)) (s : ByteArray) {E : Nat → Addr} (hE : Hid (Er w E)) (hn : Hid (nm s = true)) (hv : Hid (vw D s = none)) :
    Calls Tryz.prog 58 #[.pointer (some ⟨d, 0, none⟩), .string s] w fun e w' => e = .returned (.tuple #[.slice none 0 0, er (E 3)]) ∧ Hid (Below w.heap.size w w') := by
  go_enter Tryz.func58, Tryz.ntmps58
  go_wp2_with (go_at_call 79; refine (find_gone hD s hE hn hv).mono ?_; rintro e w1 ⟨rfl, H1⟩)
  go_ret2
  exact ⟨rfl, H1.out.trans ((alloc1 w1 _).mono H1.out.size)⟩
set_option maxHeartbeats 1000000 in
theorem sync_ok {w : World} {d m : Nat} {D : DataW Unit} {lost : Int} (hD : Hid (Drv w d m D false lost)) (s : ByteArray) (f : Fl) (hn : Hid (nm s = true)) (hv : Hid (vw D s = some f)) :
    Calls Tryz.prog 44 #[.pointer (some ⟨d, 0, none⟩), .string s] w fun e w' => e = .returned .nilIface ∧ Hid (Drv w' d m (D.put (kl s) (fd ⟨f.b, f.b, true⟩)) false lost ∧ ChD w w' d m) := by
  obtain ⟨x, y, c⟩ := f
  have s63 : s.size ≤ 63 := nm_le hn.out
  have hz : Hid (Maps.size (D.put (kl s) (fd ⟨x, x, true⟩)) ≤ 512) := by rw [put_size hD.out.tidy, hv.out]; exact hD.out.size
  go_enter Tryz.func44, Tryz.ntmps44
  go_wp2_with (first
    | (go_at_call 79; refine (find_ok hD s ⟨x, y, c⟩ hn hv).mono ?_; rintro e w1 ⟨rfl, H1⟩
       have c1 : ∀ o, (w1.alloc o).cell? ⟨d, 1, none⟩ = some (.bool false) := fun o => ((hD.out.below H1.out).below (alloc1 w1 o)).c1)
    | (go_at_call 80; refine (synced_n ⟨x, y, c⟩ _).mono ?_; rintro e w2 ⟨rfl, H2⟩
       have D2 : Hid (Drv w2 d m D false lost) := ((hD.out.below H1.out).below (alloc1 _ _)).below H2.out)
    | (go_at_call 56; refine (keep_n D2 s hn ⟨x, x, true⟩ hz).mono ?_; rintro e w3 ⟨rfl, H3⟩))
  go_ret
  exact ⟨rfl, H3.out.1, ((ChD.of_below H1.out).trans ((ChD.of_below (alloc1 w1 _)).trans (ChD.of_below H2.out))).trans H3.out.2⟩
set_option maxHeartbeats 1000000 in
theorem write_ok {w : World} {d m : Nat} {D : DataW Unit} {lost : Int} (hD : Hid (Drv w d m D false lost)) (s : ByteArray) {a : Option Addr} {n k : Nat} {l : List Nat} (hS : Hid (Sln w a n l)) (hn : Hid (nm s = true)) (hr : Hid ((vw D s).isSome = true ∨ Maps.size D < 512)) :
    Calls Tryz.prog 42 #[.pointer (some ⟨d, 0, none⟩), .string s, .slice a n k] w fun e w' => e = .returned .nilIface ∧ Hid (Drv w' d m (D.put (kl s) (fd ⟨spell l, ((vw D s).getD f0).s, ((vw D s).getD f0).h⟩)) false lost ∧ ChD w w' d m) := by
  have s63 : s.size ≤ 63 := nm_le hn.out
  have hz : Hid (∀ f, Maps.size (D.put (kl s) (fd f)) ≤ 512) := fun f => by
    rw [put_size hD.out.tidy]
    have h1 := hD.out.size
    have h2 := hr.out
    split <;> simp_all
    omega
  have c0 := hD.out.c0
  have c0' : ∀ o, (w.alloc o).cell? ⟨d, 0, none⟩ = some (.map (some m)) := fun o => (hD.out.below (alloc1 w o)).c0
  have c1 : ∀ o, (w.alloc o).cell? ⟨d, 1, none⟩ = some (.bool false) := fun o => (hD.out.below (alloc1 w o)).c1
  have cv : ∀ o, (convert 33 9 (.slice a n k)).run Tryz.prog (w.alloc o) = .ok (.string (spell l)) (w.alloc o) := fun o => conv_n (show Hid (Sln (w.alloc o) a n l) from hS.out.below (alloc1 w o))
  have DW : ∀ o, Hid (Drv (w.alloc o) d m D false lost) := fun o => hD.out.below (alloc1 w o)
  have hL := look_t hD.out.own (s := s) (by unfold maxLen; omega)
  have hl : ∀ o ty, (Builtin.len_ #[94] ty #[.map (some m)]).run Tryz.prog (w.alloc o) = .ok (.int .i64 (Maps.size D)) (w.alloc o) := fun o ty => (hD.out.below (alloc1 w o)).own.len Tryz.underlying94 ty
  cases hv : vw D s with
  | some f =>
    obtain ⟨x, y, c⟩ := f
    rw [hv] at hL
    have hL2 : (Instr.lookup 94 (.map (some m)) (.string s) true).run Tryz.prog w = .ok (.tuple #[.agg #[.string x, .string y, .bool c], .bool true]) w := hL
    clear hL hl
    go_enter Tryz.func42, Tryz.ntmps42
    go_wp2_with (first
      | (go_at_call 75; refine (name_n s (by omega) _).mono ?_; rintro e w0 ⟨rfl, h00⟩; rw [h00, hn.out]; clear h00)
      | (go_at_call 56; refine (keep_n (DW _) s hn ⟨spell l, y, c⟩ (hz.out _)).mono ?_; rintro e w3 ⟨rfl, H3⟩))
    go_ret
    exact ⟨rfl, H3.out.1, (ChD.of_below (alloc1 w _)).trans H3.out.2⟩
  | none =>
    rw [hv] at hL
    have hL2 : (Instr.lookup 94 (.map (some m)) (.string s) true).run Tryz.prog w = .ok (.tuple #[.agg #[.string ⟨#[]⟩, .string ⟨#[]⟩, .bool false], .bool false]) w := hL
    have h5 : Maps.size D < 512 := by
      have h2 := hr.out
      rw [hv] at h2
      simpa using h2
    obtain ⟨z, Hz⟩ : ∃ z, Hid (Maps.size D = z) := ⟨_, rfl⟩
    simp only [Hz.out] at hl
    have i1 : (z : Int) < 512 := by have := Hz.out; omega
    clear hL h5
    go_enter Tryz.func42, Tryz.ntmps42
    go_wp2_with (first
      | (go_at_call 75; refine (name_n s (by omega) _).mono ?_; rintro e w0 ⟨rfl, h00⟩; rw [h00, hn.out]; clear h00)
      | (go_at_call 56; refine (keep_n (DW _) s hn ⟨spell l, ⟨#[]⟩, false⟩ (hz.out _)).mono ?_; rintro e w3 ⟨rfl, H3⟩))
    go_ret
    exact ⟨rfl, H3.out.1, (ChD.of_below (alloc1 w _)).trans H3.out.2⟩
end Go.Proofs.YtkdgakcmhnadfaaGreatDoor

/- Dd -/
/- Rename, Delete, names and Crash of package disk. -/
/- errors turned -/
namespace Go.Proofs.YtkdgakcmhnadfaaGreatDoor
open Go.ChangeShapes Go.WideShapes Go.ChangeAt Go.RowKit Go.Maps Go.Sort Go.Shelf
set_option maxRecDepth 20000
set_option linter.unusedVariables false
set_option linter.unusedSimpArgs false
set_option maxHeartbeats 1000000 in
theorem rename_ok {w : World} {d m : Nat} {D : DataW Unit} {full : Bool} {lost : Int} (hD : Hid (Drv w d m D full lost)) (s t : ByteArray) (f : Fl) (hn : Hid (nm s = true)) (ht : Hid (nm t = true)) (hv : Hid (vw D s = some f)) :
    Calls Tryz.prog 93 #[.pointer (some ⟨d, 0, none⟩), .string s, .string t] w fun e w' => e = .returned .nilIface ∧ Hid (Drv w' d m ((D.del (kl s)).put (kl t) (fd f)) full lost ∧ ChD w w' d m) := by
  obtain ⟨x, y, c⟩ := f
  have s63 : s.size ≤ 63 := nm_le hn.out
  have t63 : t.size ≤ 63 := nm_le ht.out
  have hz : Hid (Maps.size ((D.del (kl s)).put (kl t) (fd ⟨x, y, c⟩)) ≤ 512) := by
    have e1 := size_del (k := kl s) hD.out.tidy
    have e2 : Maps.has D (kl s) = true := by rw [← vw_some, hv.out]; rfl
    rw [e2] at e1
    have e3 := hD.out.size
    show _ ≤ _
    rw [put_size (hD.out.tidy.del _)]
    simp at e1
    split <;> omega
  go_enter Tryz.func93, Tryz.ntmps93
  go_wp2_with (first
    | (go_at_call 75; refine (name_n t (by omega) _).mono ?_; rintro e w0 ⟨rfl, h00⟩; rw [h00, ht.out]; clear h00)
    | (go_at_call 79; refine (find_ok hD s ⟨x, y, c⟩ hn hv).mono ?_; rintro e w1 ⟨rfl, H1⟩
       have c0 : ∀ o, (w1.alloc o).cell? ⟨d, 0, none⟩ = some (.map (some m)) := fun o => ((hD.out.below H1.out).below (alloc1 w1 o)).c0
       have DA := (hD.out.below H1.out).below (alloc1 w1 (.cells #[.string x, .string y, .bool c] 100))
       obtain ⟨w2, DEL, D2, C2⟩ := drv_del DA (s := s) (by unfold maxLen; omega) 0
       have eg : w2.heap[w1.heap.size]? = (w1.alloc (.cells #[.string x, .string y, .bool c] 100)).heap[w1.heap.size]? := C2.block _ (by simp) (by have := (hD.out.below H1.out).lt; omega) (by have := (hD.out.below H1.out).mlt; omega)
       have q0 : w2.cell? ⟨w1.heap.size, 0, none⟩ = some (.string x) := (World.cell?_of_block (a := ⟨w1.heap.size, 0, none⟩) eg).trans (by simp)
       have q1 : w2.cell? ⟨w1.heap.size, 1, none⟩ = some (.string y) := (World.cell?_of_block (a := ⟨w1.heap.size, 1, none⟩) eg).trans (by simp)
       have q2 : w2.cell? ⟨w1.heap.size, 2, none⟩ = some (.bool c) := (World.cell?_of_block (a := ⟨w1.heap.size, 2, none⟩) eg).trans (by simp)
       have HD2 : Hid (Drv w2 d m (D.del (kl s)) full lost) := D2
       have HC2 : Hid (ChD w w2 d m) := ((ChD.of_below H1.out).trans (ChD.of_below (alloc1 w1 _))).trans C2
       clear DA D2 C2 eg)
    | (go_at_call 56; refine (keep_n HD2 t ht ⟨x, y, c⟩ hz).mono ?_; rintro e w3 ⟨rfl, H3⟩))
  go_ret
  exact ⟨rfl, H3.out.1, HC2.out.trans H3.out.2⟩
set_option maxHeartbeats 1000000 in
theorem delete_ok {w : World} {d m : Nat} {D : DataW Unit} {full : Bool} {lost : Int} (hD : Hid (Drv w d m D full lost)) (s : ByteArray) (f : Fl) (hn : Hid (nm s = true)) (hv : Hid (vw D s = some f)) :
    Calls Tryz.prog 64 #[.pointer (some ⟨d, 0, none⟩), .string s] w fun e w' => e = .returned .nilIface ∧ Hid (Drv w' d m (D.del (kl s)) full lost ∧ ChD w w' d m) := by
  obtain ⟨x, y, c⟩ := f
  have s63 : s.size ≤ 63 := nm_le hn.out
  go_enter Tryz.func64, Tryz.ntmps64
  go_wp2_with (first
    | (go_at_call 79; refine (find_ok hD s ⟨x, y, c⟩ hn hv).mono ?_; rintro e w1 ⟨rfl, H1⟩
       have c0 : ∀ o, (w1.alloc o).cell? ⟨d, 0, none⟩ = some (.map (some m)) := fun o => ((hD.out.below H1.out).below (alloc1 w1 o)).c0
       have DA := (hD.out.below H1.out).below (alloc1 w1 (.cells #[.string x, .string y, .bool c] 100))
       obtain ⟨w2, DEL, D2, C2⟩ := drv_del DA (s := s) (by unfold maxLen; omega) 0
       have HD2 : Hid (Drv w2 d m (D.del (kl s)) full lost) := D2
       have HC2 : Hid (ChD w w2 d m) := ((ChD.of_below H1.out).trans (ChD.of_below (alloc1 w1 _))).trans C2
       clear DA D2 C2))
  go_ret
  exact ⟨rfl, HD2.out, HC2.out⟩
set_option maxHeartbeats 1000000 in
theorem delete_gone {w : World} {d m : Nat} {D : DataW Unit} {full : Bool} {lost : Int} (hD : Hid (Drv w d m D full lost)) (s : ByteArray) {E : Nat → Addr} (hE : Hid (Er w E)) (hn : Hid (nm s = true)) (hv : Hid (vw D s = none)) :
    Calls Tryz.prog 64 #[.pointer (some ⟨d, 0, none⟩), .string s] w fun e w' => e = .returned (er (E 3)) ∧ Hid (Below w.heap.size w w') := by
  go_enter Tryz.func64, Tryz.ntmps64
  go_wp2_with (go_at_call 79; refine (find_gone hD s hE hn hv).mono ?_; rintro e w1 ⟨rfl, H1⟩)
  go_ret
  exact ⟨rfl, H1.out.trans ((alloc1 w1 _).mono H1.out.size)⟩
set_option maxHeartbeats 1000000 in
theorem sync_gone {w : World} {d m : Nat} {D : DataW Unit} {full : Bool} {lost : Int} (hD : Hid (Drv w d m D full lost)) (s : ByteArray) {E : Nat → Addr} (hE : Hid (Er w E)) (hn : Hid (nm s = true)) (hv : Hid (vw D s = none)) :
    Calls Tryz.prog 44 #[.pointer (some ⟨d, 0, none⟩), .string s] w fun e w' => e = .returned (er (E 3)) ∧ Hid (Below w.heap.size w w') := by
  go_enter Tryz.func44, Tryz.ntmps44
  go_wp2_with (go_at_call 79; refine (find_gone hD s hE hn hv).mono ?_; rintro e w1 ⟨rfl, H1⟩)
  go_ret
  exact ⟨rfl, H1.out.trans ((alloc1 w1 _).mono H1.out.size)⟩
/- the keys, sorted -/
theorem sorts48 (k : Nat) : AnyZ.SortsIn Tryz.prog Tryz.sorted48_ren Fence.wide k :=
  ⟨fun blk off cap ss W hH hblk hsz => callsIn_wide.2 (AnyM.slices_Sort_string Tryz.sort53 blk off cap ss W hH hblk hsz), fun p cap W => callsIn_wide.2 (AnyM.slices_Sort_string_none Tryz.sort53 p cap W)⟩
theorem keys49 (mb : Option Nat) (W : World) : CallsIn Fence.wide 5 Tryz.prog 95 #[.map mb] W fun e w' => e = .returned (.func (.func 122) #[] #[.pointer (some ⟨W.heap.size, 0, none⟩)]) ∧ w' = W.alloc (.cells #[.map mb] 94) :=
  AnyZ.keys_in Tryz.keys49 Fence.wide 5 trivial rfl mb W
set_option maxHeartbeats 1000000 in
theorem sorted48 {m n : Nat} {D : DataW Unit} {w : World} (hown : w.ownsMap Tryz.prog 9 Rf m n D) (hz : Maps.size D ≤ 512) :
    CallsIn Fence.wide 5 Tryz.prog 94 #[.func (.func 122) #[] #[.pointer (some ⟨w.heap.size, 0, none⟩)]] (w.alloc (.cells #[.map (some m)] 94)) fun e w' => ∃ (v : Value) (ss : List (List UInt8)), e = .returned v ∧ ss.Perm (strKeys D) ∧
      w'.ownsRow (w.alloc (.cells #[.map (some m)] 94)).heap.size 9 1 v ss.length ((ss.mergeSort (fun x y => decide (x ≤ y))).map encStr) ∧ (v = .slice none 0 0 ↔ ss = []) ∧ Below (w.alloc (.cells #[.map (some m)] 94)).heap.size (w.alloc (.cells #[.map (some m)] 94)) w' := by
  have hbl := hown.lt
  have hseq : SeqGives Fence.wide 2 Tryz.prog 122 #[.pointer (some ⟨w.heap.size, 0, none⟩)] encStr (fun ss => ss.Perm (strKeys D)) (Maps.size D) (w.alloc (.cells #[.map (some m)] 94)) :=
    AnyZ.keys_gives (ρ := Tryz.keys49_ren) { Tryz.keys49 with } Fence.wide _ trivial rfl (by omega) w.heap.size m n D _ (by simp) (by simp) (hown.alloc _)
  exact AnyZ.sorted_in Tryz.sorted48 Fence.wide 5 trivial trivial trivial trivial rfl (by omega) (sorts48 _) (enters_of Tryz.func121 (by kernel_rfl) rfl) 122 #[.pointer (some ⟨w.heap.size, 0, none⟩)] trivial (enters_of Tryz.func122 (by kernel_rfl) rfl) _ _ (by unfold maxLen; omega) (by omega) _ hseq
/- a slice of names of the call's own -/
structure Kn (w : World) (B : Nat) (a : Option Addr) (k : Nat) (ks : List ByteArray) : Prop where
  len : k = ks.length
  row : ks = [] ∨ ∃ g cs, a = some ⟨g, 0, none⟩ ∧ B ≤ g ∧ w.heap[g]? = some (.cells cs 9 (0, 0)) ∧ ∀ i (h : i < ks.length), cs[i]? = some (.string ks[i])
theorem Kn.at_ {w : World} {B : Nat} {a : Option Addr} {k : Nat} {ks : List ByteArray} (h : Kn w B a k ks) {i : Nat} (hi : i < k) : ∃ g, a = some ⟨g, 0, none⟩ ∧ B ≤ g ∧ g < w.heap.size ∧ w.cell? ⟨g, i, none⟩ = some (.string (ks[i]'(by have := h.len; omega))) := by
  have hl := h.len
  rcases h.row with h1 | ⟨g, cs, h1, h2, h3, h4⟩
  · rw [h1] at hl; simp at hl; omega
  · exact ⟨g, h1, h2, (Array.getElem?_eq_some_iff.1 h3).1, by simp [World.cell?, h3, h4 i (by omega)]⟩
theorem Kn.keep {w w' : World} {B : Nat} {a : Option Addr} {k : Nat} {ks : List ByteArray} (h : Kn w B a k ks) (hb : ∀ g, B ≤ g → g < w.heap.size → w'.heap[g]? = w.heap[g]?) : Kn w' B a k ks := by
  refine ⟨h.len, h.row.imp id ?_⟩
  rintro ⟨g, cs, h1, h2, h3, h4⟩
  exact ⟨g, cs, h1, h2, (hb g h2 (Array.getElem?_eq_some_iff.1 h3).1).trans h3, h4⟩
/- the names of a map, rising -/
def rise (D : DataW Unit) : List ByteArray := ((strKeys D).mergeSort (fun x y => decide (x ≤ y))).map fun x => ⟨x.toArray⟩
set_option maxHeartbeats 1000000 in
theorem names_n {w : World} {d m : Nat} {D : DataW Unit} {full : Bool} {lost : Int} (hD : Hid (Drv w d m D full lost)) :
    Calls Tryz.prog 55 #[.pointer (some ⟨d, 0, none⟩)] w fun e w' => ∃ a k c ks, e = .returned (.slice a k c) ∧ Hid (Kn w' w.heap.size a k ks ∧ (∃ ss : List (List UInt8), ss.Perm (strKeys D) ∧ ks = (ss.mergeSort (fun x y => decide (x ≤ y))).map fun x => ⟨x.toArray⟩) ∧ Below w.heap.size w w') := by
  refine (callsIn_wide (n := 6)).1 ?_
  have hfK : Fence.wide.fn 95 := trivial
  have hfS : Fence.wide.fn 94 := trivial
  have c0 := hD.out.c0
  have hz := hD.out.size
  refine callsIn_of_wp Tryz.func55 rfl trivial ?_ rfl
  simp only [Tryz.ntmps55, List.size_toArray, List.length_cons, List.length_nil, Nat.reduceAdd, Nat.reduceSub, Array.replicate_succ, Array.replicate_zero, List.push_toArray, List.append_toArray, List.nil_append, List.cons_append]
  gi_wp2_with (first
    | (gi_at_call 95; refine (keys49 _ _).mono ?_; rintro e w' ⟨rfl, rfl⟩)
    | (gi_at_call 94; refine (sorted48 hD.out.own hz).mono ?_; rintro e w1 ⟨v, ss, rfl, hS, hrow, hnil, hb⟩))
  go_ret
  have B1 : Below w.heap.size w w1 := (alloc1 w _).trans (hb.mono (by simp))
  have e1 : ((ss.mergeSort (fun x y => decide (x ≤ y))).map fun x => (⟨x.toArray⟩ : ByteArray)).length = ss.length := by simp
  rcases hrow.2 with ⟨h1, h2⟩ | ⟨g, cap, cur, h1, h2, h3, _, _, _, h4⟩
  · have h0 : ss = [] := List.length_eq_zero_iff.1 h2
    refine ⟨none, 0, 0, [], by rw [← h1]; rfl, ⟨rfl, .inl rfl⟩, ⟨ss, hS, by rw [h0]; simp⟩, B1⟩
  · refine ⟨_, _, _, _, by rw [← h1]; rfl, ⟨e1.symm, .inr ⟨g, cur, rfl, ?_, h3, fun i hi => ?_⟩⟩, ⟨ss, hS, rfl⟩, B1⟩
    · simp at h2; omega
    · rw [Nat.mul_one] at h4
      have hi2 : i < ss.length := by rw [e1] at hi; exact hi
      have h5 : (cur.toList.take ss.length)[i]? = cur.toList[i]? := List.getElem?_take_of_lt hi2
      have h6 : cur.toList[i]? = cur[i]? := by simp
      rw [h4] at h5
      rw [← h6, ← h5]
      simp only [List.getElem?_map, List.getElem_map]
      rw [List.getElem?_eq_getElem (by simpa using hi2)]
      rfl
end Go.Proofs.YtkdgakcmhnadfaaGreatDoor

/- De -/
/- Crash of package disk: what is not safe is let go. -/
namespace Go.Proofs.YtkdgakcmhnadfaaGreatDoor
open Go.ChangeShapes Go.WideShapes Go.ChangeAt Go.RowKit Go.Maps Go.Sort Go.Shelf
set_option maxRecDepth 20000
set_option linter.unusedVariables false
set_option linter.unusedSimpArgs false
/- of one file -/
def cr : Option Fl → Option Fl
  | some f => if f.h = true then some ⟨f.s, f.s, true⟩ else none
  | none => none
theorem cr_cr (f : Option Fl) : cr (cr f) = cr f := by
  cases f with
  | none => rfl
  | some f =>
    obtain ⟨x, y, c⟩ := f
    cases c <;> simp [cr]
/- one round -/
def cst (D : DataW Unit) (s : ByteArray) : DataW Unit := if ((vw D s).getD f0).h = true then D.put (kl s) (fd ⟨((vw D s).getD f0).s, ((vw D s).getD f0).s, true⟩) else D.del (kl s)
theorem vw_cst {D : DataW Unit} (hD : IsMap D) (s t : ByteArray) : vw (cst D s) t = if t = s then cr (vw D t) else vw D t := by
  unfold cst
  by_cases h : ((vw D s).getD f0).h = true
  · rw [if_pos h, vw_put hD]
    by_cases e : t = s
    · subst e
      rw [if_pos rfl, if_pos rfl]
      cases hv : vw D t with
      | none => rw [hv] at h; cases h
      | some f => rw [hv] at h; simp at h; simp [cr, h]
    · rw [if_neg e, if_neg e]
  · rw [if_neg h, vw_del]
    by_cases e : t = s
    · subst e
      rw [if_pos rfl, if_pos rfl]
      cases hv : vw D t with
      | none => rfl
      | some f => rw [hv] at h; simp at h; simp [cr, h]
    · rw [if_neg e, if_neg e]
theorem isMap_cst {D : DataW Unit} (hD : IsMap D) (s : ByteArray) : IsMap (cst D s) := by
  unfold cst
  split
  · exact hD.put _ _
  · exact hD.del _
def crs (D : DataW Unit) (ks : List ByteArray) : DataW Unit := ks.foldl cst D
theorem isMap_crs : ∀ (ks : List ByteArray) {D : DataW Unit}, IsMap D → IsMap (crs D ks)
  | [], _, h => h
  | k :: ks, D, h => isMap_crs ks (isMap_cst h k)
open Classical in
theorem vw_crs : ∀ (ks : List ByteArray) {D : DataW Unit}, IsMap D → ∀ t, vw (crs D ks) t = if t ∈ ks then cr (vw D t) else vw D t
  | [], D, h, t => by simp [crs]
  | k :: ks, D, h, t => by
    show vw (crs (cst D k) ks) t = _
    rw [vw_crs ks (isMap_cst h k), vw_cst h]
    by_cases e : t = k
    · subst e
      by_cases h2 : t ∈ ks
      · simp [h2, cr_cr]
      · simp [h2]
    · simp [e]
theorem mem_keys {D : DataW Unit} {t : ByteArray} (h : (vw D t).isSome = true) : t.data.toList ∈ strKeys D := by
  rw [vw_some] at h
  cases D with
  | map es =>
    rw [has_eq, List.any_eq_true] at h
    obtain ⟨p, hp, hk⟩ := h
    refine List.mem_map.2 ⟨p, hp, ?_⟩
    obtain ⟨a, b⟩ := p
    simp only [kl] at hk
    cases a <;> simp [Lit.sameKey] at hk
    simp [strOf, hk]
  | _ => cases h
/- the whole crash, by any list of all keys -/
theorem vw_crash {D : DataW Unit} (hD : IsMap D) {ks : List ByteArray} {ss : List (List UInt8)} (hS : ss.Perm (strKeys D)) (hk : ks = (ss.mergeSort (fun x y => decide (x ≤ y))).map fun x => ⟨x.toArray⟩) (t : ByteArray) : vw (crs D ks) t = cr (vw D t) := by
  rw [vw_crs ks hD]
  by_cases h : t ∈ ks
  · rw [if_pos h]
  · rw [if_neg h]
    cases hv : vw D t with
    | none => rfl
    | some f =>
      exfalso
      apply h
      have h1 := mem_keys (D := D) (t := t) (by rw [hv]; rfl)
      rw [hk]
      refine List.mem_map.2 ⟨t.data.toList, ?_, ?_⟩
      · rw [List.mem_mergeSort]
        exact hS.mem_iff.2 h1
      · cases t; simp
theorem size_cst {D : DataW Unit} (hD : Tidy D) (s : ByteArray) : Maps.size (cst D s) ≤ Maps.size D := by
  unfold cst
  split
  · rename_i h
    rw [put_size hD]
    cases hv : vw D s with
    | none => rw [hv] at h; cases h
    | some f => simp
  · have := size_del (k := kl s) hD
    omega
set_option maxHeartbeats 2000000 in
theorem crash_n {w : World} {d m : Nat} {D : DataW Unit} {full : Bool} {lost : Int} (hD : Hid (Drv w d m D full lost)) :
    Calls Tryz.prog 19 #[.pointer (some ⟨d, 0, none⟩)] w fun e w' => ∃ D', e = .returned (.tuple #[]) ∧ Hid (Drv w' d m D' full lost ∧ ChD w w' d m ∧ ∀ t, vw D' t = cr (vw D t)) := by
  go_enter Tryz.func19, Tryz.ntmps19
  go_wp2_with (go_at_call 55; refine (names_n hD).mono ?_; rintro e w1 ⟨a, k, c, ks, rfl, H1⟩)
  have D1 := hD.out.below H1.out.2.2
  have B1 := H1.out.2.2
  have K1 := H1.out.1
  have kb : Hid (k = ks.length) := K1.len
  have HS : Hid (∃ ss : List (List UInt8), ss.Perm (strKeys D) ∧ ks = (ss.mergeSort (fun x y => decide (x ≤ y))).map fun x => ⟨x.toArray⟩) := H1.out.2.1
  have HG : Hid (d < w.heap.size ∧ m < w.heap.size ∧ k ≤ 512) := by
    refine ⟨hD.out.lt, hD.out.mlt, ?_⟩
    obtain ⟨ss, h1, h2⟩ := HS.out
    have h3 := congrArg List.length h2
    have h4 := h1.length_eq
    have h5 := hD.out.size
    obtain ⟨es, rfl⟩ := hD.out.isMap
    rw [size_eq] at h5
    simp [strKeys] at h3 h4
    have := kb.out
    omega
  have R0 : Hid (Drv w1 d m D full lost ∧ ChD w w1 d m ∧ Kn w1 w.heap.size a k ks) := ⟨D1, ChD.of_below B1, K1⟩
  have SZ : Hid (∀ s ∈ ks, s.size ≤ 9223372036854775807) := by
    intro s hs
    obtain ⟨ss, h1, h2⟩ := HS.out
    rw [h2] at hs
    obtain ⟨x, hx, rfl⟩ := List.mem_map.1 hs
    rw [List.mem_mergeSort] at hx
    have h3 := strKeys_le hD.out.own Tryz.underlying9 x (h1.mem_iff.1 hx)
    unfold maxLen at h3
    show x.toArray.size ≤ _
    simp
    omega
  have IM : Hid (IsMap D) := hD.out.isMap
  clear D1 B1 K1 H1
  go_loopw [8] (fun ti wr => ∃ i : Nat, i ≤ k ∧ ti = .int .i64 i ∧ Hid (Drv wr d m (crs D (ks.take i)) full lost ∧ ChD w wr d m ∧ Kn wr w.heap.size a k ks)) (fun ti _ => k - (intOf ti).toNat)
  case atStart => exact ⟨0, by omega, rfl, by simpa [crs] using R0⟩
  case round =>
    obtain ⟨i, hi, rfl, HI⟩ := hrel
    clear R0
    by_cases hlt : i < k
    · obtain ⟨g, rfl, hg1, hg2, hc⟩ := HI.out.2.2.at_ hlt
      have hil : i < ks.length := by have := kb.out; omega
      obtain ⟨s, Hs⟩ : ∃ s, Hid (ks[i] = s) := ⟨ks[i], (rfl : ks[i] = ks[i])⟩
      rw [Hs.out] at hc
      obtain ⟨Di, HDi⟩ : ∃ Di, Hid (crs D (ks.take i) = Di) := ⟨_, rfl⟩
      have dr : Drv wr d m Di full lost := by rw [← HDi.out]; exact HI.out.1
      have nx : crs D (ks.take (i + 1)) = cst Di s := by
        rw [List.take_add_one, List.getElem?_eq_getElem hil]
        show List.foldl cst D (ks.take i ++ [ks[i]]) = _
        rw [List.foldl_append, Hs.out, ← HDi.out]
        rfl
      have sz : s.size ≤ 9223372036854775807 := SZ.out s (by rw [← Hs.out]; exact List.getElem_mem hil)
      have hL := look_f dr.own (s := s) (by unfold maxLen; omega)
      obtain ⟨f, Hf⟩ : ∃ f, Hid ((vw Di s).getD f0 = f) := ⟨_, rfl⟩
      rw [Hf.out] at hL
      obtain ⟨x, y, c'⟩ := f
      have c0 := dr.c0
      have c0' : ∀ o, (wr.alloc o).cell? ⟨d, 0, none⟩ = some (.map (some m)) := fun o => (dr.below (alloc1 wr o)).c0
      have hL2 : (Instr.lookup 94 (.map (some m)) (.string s) false).run Tryz.prog wr = .ok (.agg #[.string x, .string y, .bool c']) wr := hL
      have HDR : Hid (Drv wr d m Di full lost) := dr
      have CH := HI.out.2.1
      have KN := HI.out.2.2
      have sK : ∀ w2, ChD wr w2 d m → Kn w2 w.heap.size (some ⟨g, 0, none⟩) k ks := fun w2 hc2 => KN.keep (fun b h1 h2 => hc2.block b h2 (by have := HG.out; omega) (by have := HG.out; omega))
      have k512 : k ≤ 512 := HG.out.2.2
      cases c' with
      | false =>
        obtain ⟨w2, DEL, D2, C2⟩ := drv_del (dr.below (alloc1 wr (.cells #[.string x, .string y, .bool false] 100))) (s := s) (by unfold maxLen; omega) 0
        have e1 : cst Di s = Di.del (kl s) := by unfold cst; rw [Hf.out]; rfl
        have C3 : ChD wr w2 d m := (ChD.of_below (alloc1 wr _)).trans C2
        have NX : Hid (Drv w2 d m (crs D (ks.take (i + 1))) full lost ∧ ChD w w2 d m ∧ Kn w2 w.heap.size (some ⟨g, 0, none⟩) k ks) := by
          rw [nx, e1]
          exact ⟨D2, CH.trans C3, sK w2 C3⟩
        clear D2 C2 C3 CH KN sK hL dr nx HI
        go_wp2
        go_roundw
        case rel => exact ⟨i + 1, by omega, by go_num, NX.out⟩
        case measure => simp [intOf]; omega
      | true =>
        have hsome : (vw Di s).isSome = true := by
          cases hv : vw Di s with
          | none => have h := Hf.out; rw [hv] at h; simp [f0] at h
          | some f => rfl
        have hn : Hid (nm s = true) := dr.good s hsome
        have hz : Hid (Maps.size (Di.put (kl s) (fd ⟨y, y, true⟩)) ≤ 512) := by
          rw [put_size dr.tidy, hsome]
          exact dr.size
        have e1 : cst Di s = Di.put (kl s) (fd ⟨y, y, true⟩) := by unfold cst; rw [Hf.out]; rfl
        have HX : Hid (crs D (ks.take (i + 1)) = Di.put (kl s) (fd ⟨y, y, true⟩) ∧ ChD w wr d m ∧ ∀ w2, ChD wr w2 d m → Kn w2 w.heap.size (some ⟨g, 0, none⟩) k ks) := ⟨nx.trans e1, CH, sK⟩
        have DW : ∀ o, Hid (Drv (wr.alloc o) d m Di full lost) := fun o => HDR.out.below (alloc1 wr o)
        clear CH KN sK hL dr nx HI e1
        go_wp2_with (go_at_call 56; refine (keep_n (DW _) s hn ⟨y, y, true⟩ hz).mono ?_; rintro e w3 ⟨rfl, H3⟩)
        have NX : Hid (Drv w3 d m (crs D (ks.take (i + 1))) full lost ∧ ChD w w3 d m ∧ Kn w3 w.heap.size (some ⟨g, 0, none⟩) k ks) := by
          rw [HX.out.1]
          have C3 : ChD wr w3 d m := (ChD.of_below (alloc1 wr _)).trans H3.out.2
          exact ⟨H3.out.1, HX.out.2.1.trans C3, HX.out.2.2 w3 C3⟩
        go_roundw
        case rel => exact ⟨i + 1, by omega, by go_num, NX.out⟩
        case measure => simp [intOf]; omega
    · have hik : i = ks.length := by have := kb.out; omega
      have FIN : Hid (Drv wr d m (crs D ks) full lost ∧ ChD w wr d m ∧ ∀ t, vw (crs D ks) t = cr (vw D t)) := by
        obtain ⟨h1, h2, h3⟩ := HI.out
        rw [hik, List.take_length] at h1
        obtain ⟨ss, h4, h5⟩ := HS.out
        exact ⟨h1, h2, vw_crash IM.out h4 h5⟩
      clear HI
      go_wp2
      go_end0
      exact ⟨crs D ks, rfl, FIN.out⟩
end Go.Proofs.YtkdgakcmhnadfaaGreatDoor

/- Df -/
/- A drive by what lies under each name: every call's contract in these words; alive. -/
/- errors turned -/
namespace Go.Proofs.YtkdgakcmhnadfaaGreatDoor
open Go.ChangeShapes Go.WideShapes Go.ChangeAt Go.RowKit
set_option maxRecDepth 20000
set_option linter.unusedVariables false
set_option linter.unusedSimpArgs false
def upd (v : ByteArray → Option Fl) (s : ByteArray) (o : Option Fl) : ByteArray → Option Fl := fun t => if t = s then o else v t
theorem upd_same (v : ByteArray → Option Fl) (s : ByteArray) (o : Option Fl) : upd v s o s = o := if_pos rfl
theorem upd_other (v : ByteArray → Option Fl) {s t : ByteArray} (o : Option Fl) (h : t ≠ s) : upd v s o t = v t := if_neg h
def Dv (w : World) (d m : Nat) (v : ByteArray → Option Fl) (k : Nat) : Prop := ∃ D, Drv w d m D false 0 ∧ (∀ t, vw D t = v t) ∧ Maps.size D ≤ k
theorem Dv.below {w w' : World} {d m : Nat} {v : ByteArray → Option Fl} {k : Nat} (h : Dv w d m v k) (hb : Below w.heap.size w w') : Dv w' d m v k := by
  obtain ⟨D, h1, h2, h3⟩ := h
  exact ⟨D, h1.below hb, h2, h3⟩
theorem Dv.lt {w : World} {d m : Nat} {v : ByteArray → Option Fl} {k : Nat} (h : Dv w d m v k) : d < w.heap.size ∧ m < w.heap.size := by
  obtain ⟨D, h1, h2, h3⟩ := h
  exact ⟨h1.lt, h1.mlt⟩
theorem put_le {D : DataW Unit} (hD : Maps.Tidy D) (s : ByteArray) (f : Fl) : Maps.size (D.put (kl s) (fd f)) ≤ Maps.size D + 1 := by
  rw [put_size hD]
  split <;> omega
section
variable {w : World} {d m : Nat} {v : ByteArray → Option Fl} {k : Nat}
theorem new_v (w : World) : Calls Tryz.prog 28 #[] w fun e w' => ∃ d m, e = .returned (.pointer (some ⟨d, 0, none⟩)) ∧ Hid (Dv w' d m (fun _ => none) 0 ∧ w.heap.size ≤ d ∧ w.heap.size ≤ m ∧ Below w.heap.size w w') := by
  refine (dnew_n w).mono ?_
  rintro e w' ⟨d, m, rfl, H⟩
  exact ⟨d, m, rfl, ⟨_, H.out.1, fun t => rfl, Nat.le_refl _⟩, H.out.2⟩
theorem write_v (hD : Hid (Dv w d m v k)) (hk : Hid (k < 512)) (s : ByteArray) {a : Option Addr} {n c : Nat} {l : List Nat} (hS : Hid (Sln w a n l)) (hn : Hid (nm s = true)) :
    Calls Tryz.prog 42 #[.pointer (some ⟨d, 0, none⟩), .string s, .slice a n c] w fun e w' => e = .returned .nilIface ∧ Hid (Dv w' d m (upd v s (some ⟨spell l, ((v s).getD f0).s, ((v s).getD f0).h⟩)) (k + 1) ∧ ChD w w' d m) := by
  obtain ⟨D, h1, h2, h3⟩ := hD.out
  refine (write_ok (k := c) (show Hid (Drv w d m D false 0) from h1) s hS hn (.inr (by have := hk.out; omega))).mono ?_
  rintro e w' ⟨rfl, H⟩
  refine ⟨rfl, ⟨_, H.out.1, fun t => ?_, ?_⟩, H.out.2⟩
  · rw [vw_put h1.isMap, h2 s]
    unfold upd
    split
    · rfl
    · exact h2 t
  · have := put_le h1.tidy s ⟨spell l, ((vw D s).getD f0).s, ((vw D s).getD f0).h⟩
    omega
theorem sync_v (hD : Hid (Dv w d m v k)) (s : ByteArray) (f : Fl) (hn : Hid (nm s = true)) (hv : Hid (v s = some f)) :
    Calls Tryz.prog 44 #[.pointer (some ⟨d, 0, none⟩), .string s] w fun e w' => e = .returned .nilIface ∧ Hid (Dv w' d m (upd v s (some ⟨f.b, f.b, true⟩)) k ∧ ChD w w' d m) := by
  obtain ⟨D, h1, h2, h3⟩ := hD.out
  have h4 : vw D s = some f := (h2 s).trans hv.out
  refine (sync_ok (show Hid (Drv w d m D false 0) from h1) s f hn h4).mono ?_
  rintro e w' ⟨rfl, H⟩
  refine ⟨rfl, ⟨_, H.out.1, fun t => ?_, ?_⟩, H.out.2⟩
  · rw [vw_put h1.isMap]
    unfold upd
    split
    · rfl
    · exact h2 t
  · rw [put_size h1.tidy, h4]; exact h3
theorem sync_gone_v (hD : Hid (Dv w d m v k)) (s : ByteArray) {E : Nat → Addr} (hE : Hid (Er w E)) (hn : Hid (nm s = true)) (hv : Hid (v s = none)) :
    Calls Tryz.prog 44 #[.pointer (some ⟨d, 0, none⟩), .string s] w fun e w' => e = .returned (er (E 3)) ∧ Hid (Dv w' d m v k ∧ ChD w w' d m) := by
  obtain ⟨D, h1, h2, h3⟩ := hD.out
  refine (sync_gone (show Hid (Drv w d m D false 0) from h1) s hE hn ((h2 s).trans hv.out)).mono ?_
  rintro e w' ⟨rfl, H⟩
  exact ⟨rfl, hD.out.below H.out, ChD.of_below H.out⟩
theorem delete_v (hD : Hid (Dv w d m v k)) (s : ByteArray) (f : Fl) (hn : Hid (nm s = true)) (hv : Hid (v s = some f)) :
    Calls Tryz.prog 64 #[.pointer (some ⟨d, 0, none⟩), .string s] w fun e w' => e = .returned .nilIface ∧ Hid (Dv w' d m (upd v s none) k ∧ ChD w w' d m) := by
  obtain ⟨D, h1, h2, h3⟩ := hD.out
  refine (delete_ok (show Hid (Drv w d m D false 0) from h1) s f hn ((h2 s).trans hv.out)).mono ?_
  rintro e w' ⟨rfl, H⟩
  refine ⟨rfl, ⟨_, H.out.1, fun t => ?_, ?_⟩, H.out.2⟩
  · rw [vw_del]
    unfold upd
    split
    · rfl
    · exact h2 t
  · have := Maps.size_del (k := kl s) h1.tidy; omega
theorem delete_gone_v (hD : Hid (Dv w d m v k)) (s : ByteArray) {E : Nat → Addr} (hE : Hid (Er w E)) (hn : Hid (nm s = true)) (hv : Hid (v s = none)) :
    Calls Tryz.prog 64 #[.pointer (some ⟨d, 0, none⟩), .string s] w fun e w' => e = .returned (er (E 3)) ∧ Hid (Dv w' d m v k ∧ ChD w w' d m) := by
  obtain ⟨D, h1, h2, h3⟩ := hD.out
  refine (delete_gone (show Hid (Drv w d m D false 0) from h1) s hE hn ((h2 s).trans hv.out)).mono ?_
  rintro e w' ⟨rfl, H⟩
  exact ⟨rfl, hD.out.below H.out, ChD.of_below H.out⟩
theorem rename_v (hD : Hid (Dv w d m v k)) (s t : ByteArray) (f : Fl) (hn : Hid (nm s = true)) (ht : Hid (nm t = true)) (hv : Hid (v s = some f)) :
    Calls Tryz.prog 93 #[.pointer (some ⟨d, 0, none⟩), .string s, .string t] w fun e w' => e = .returned .nilIface ∧ Hid (Dv w' d m (upd (upd v s none) t (some f)) k ∧ ChD w w' d m) := by
  obtain ⟨D, h1, h2, h3⟩ := hD.out
  have h4 : vw D s = some f := (h2 s).trans hv.out
  refine (rename_ok (show Hid (Drv w d m D false 0) from h1) s t f hn ht h4).mono ?_
  rintro e w' ⟨rfl, H⟩
  refine ⟨rfl, ⟨_, H.out.1, fun u => ?_, ?_⟩, H.out.2⟩
  · rw [vw_put (h1.isMap.del _), vw_del]
    unfold upd
    split
    · rfl
    · split
      · rfl
      · exact h2 u
  · have e1 := Maps.size_del (k := kl s) h1.tidy
    have e2 : Maps.has D (kl s) = true := by rw [← vw_some, h4]; rfl
    rw [e2] at e1
    simp at e1
    have := put_le (h1.tidy.del (kl s)) t f
    omega
theorem crash_v (hD : Hid (Dv w d m v k)) :
    Calls Tryz.prog 19 #[.pointer (some ⟨d, 0, none⟩)] w fun e w' => e = .returned (.tuple #[]) ∧ Hid (Dv w' d m (fun t => cr (v t)) 512 ∧ ChD w w' d m) := by
  obtain ⟨D, h1, h2, h3⟩ := hD.out
  refine (crash_n (show Hid (Drv w d m D false 0) from h1)).mono ?_
  rintro e w' ⟨D', rfl, H⟩
  exact ⟨rfl, ⟨D', H.out.1, fun t => by rw [H.out.2.2 t, h2 t], H.out.1.size⟩, H.out.2.1⟩
theorem read_v (hD : Hid (Dv w d m v k)) (s : ByteArray) (f : Fl) (hn : Hid (nm s = true)) (hv : Hid (v s = some f)) (hb : f.b.size ≤ 140737488352256) :
    Calls Tryz.prog 58 #[.pointer (some ⟨d, 0, none⟩), .string s] w fun e w' => ∃ g k' c, e = .returned (.tuple #[.slice (some ⟨g, 0, none⟩) k' c, .nilIface]) ∧ Hid (Sln w' (some ⟨g, 0, none⟩) k' (bytesOf f.b) ∧ Below w.heap.size w w' ∧ w.heap.size ≤ g ∧ k' ≤ c ∧ Dv w' d m v k) := by
  obtain ⟨D, h1, h2, h3⟩ := hD.out
  refine (read_ok (show Hid (Drv w d m D false 0) from h1) s f hn ((h2 s).trans hv.out) hb).mono ?_
  rintro e w' ⟨g, k', c, rfl, H⟩
  exact ⟨g, k', c, rfl, H.out.1, H.out.2.1, H.out.2.2.1, H.out.2.2.2, hD.out.below H.out.2.1⟩
theorem read_gone_v (hD : Hid (Dv w d m v k)) (s : ByteArray) {E : Nat → Addr} (hE : Hid (Er w E)) (hn : Hid (nm s = true)) (hv : Hid (v s = none)) :
    Calls Tryz.prog 58 #[.pointer (some ⟨d, 0, none⟩), .string s] w fun e w' => e = .returned (.tuple #[.slice none 0 0, er (E 3)]) ∧ Hid (Below w.heap.size w w' ∧ Dv w' d m v k) := by
  obtain ⟨D, h1, h2, h3⟩ := hD.out
  refine (read_gone (show Hid (Drv w d m D false 0) from h1) s hE hn ((h2 s).trans hv.out)).mono ?_
  rintro e w' ⟨rfl, H⟩
  exact ⟨rfl, H.out, hD.out.below H.out⟩
end
/- a slice of one byte that the program lays -/
theorem one_sln (w : World) (x : Nat) (hx : x < 256) : Sln (w.alloc (.cells #[.int .u8 (x : Int)] 5)) (some ⟨w.heap.size, 0, none⟩) 1 [x] := by
  have h : Blk (w.alloc (.cells #[.int .u8 (x : Int)] 5)) w.heap.size [x] := by
    show (w.heap.push _)[w.heap.size]? = _
    simp [bv]
  have h2 := h.sln (by simpa using hx) (by simp)
  exact h2
abbrev nA : ByteArray := ⟨#[97]⟩
abbrev nB : ByteArray := ⟨#[98]⟩
abbrev nF : ByteArray := ⟨#[102]⟩
abbrev nT : ByteArray := ⟨#[116]⟩
theorem nm_a : nm nA = true := by decide
theorem nm_b : nm nB = true := by decide
theorem nm_f : nm nF = true := by decide
theorem nm_t : nm nT = true := by decide
theorem ba_ne : nB ≠ nA := by decide
theorem ab_ne : nA ≠ nB := by decide
theorem ft_ne : nF ≠ nT := by decide
theorem tf_ne : nT ≠ nF := by decide
theorem sp1 : spell [1] = ⟨#[1]⟩ := by decide
end Go.Proofs.YtkdgakcmhnadfaaGreatDoor
