/- A drive that answers errors: each call at whatever name, the file f untouched. -/
import Derived.Test.YtdoenacobmebpaaDoorDf
namespace Go.Proofs.YtdoenacobmebpaaDoor
open Go.ChangeShapes Go.WideShapes Go.ChangeAt Go.RowKit
set_option maxRecDepth 20000
set_option linter.unusedVariables false
set_option linter.unusedSimpArgs false
set_option maxHeartbeats 1000000 in
theorem write_name {w : World} {d : Nat} (s : ByteArray) (hs : s.size ≤ 9223372036854775807) {E : Nat → Addr} (hE : Hid (Er w E)) (hn : Hid (nm s = false)) (v : Value) :
    Calls Tryd.prog 13 #[.pointer (some ⟨d, 0, none⟩), .string s, v] w fun e w' => e = .returned (er (E 0)) ∧ w' = w := by
  have g0 := hE.out 0 (by omega)
  go_enter Tryd.func13, Tryd.ntmps13
  go_wp2_with (go_at_call 37; refine (name_n s hs _).mono ?_; rintro e w0 ⟨rfl, h00⟩; rw [h00, hn.out]; clear h00)
  go_ret
  exact ⟨rfl, rfl⟩
set_option maxHeartbeats 1000000 in
theorem write_full {w : World} {d m : Nat} {D : DataW Unit} {full : Bool} {lost : Int} (hD : Hid (Drv w d m D full lost)) (s : ByteArray) {E : Nat → Addr} (hE : Hid (Er w E)) (hn : Hid (nm s = true)) (hf : Hid (full = true ∨ (vw D s = none ∧ 512 ≤ Maps.size D))) (v : Value) :
    Calls Tryd.prog 13 #[.pointer (some ⟨d, 0, none⟩), .string s, v] w fun e w' => e = .returned (er (E 1)) ∧ Hid (Below w.heap.size w w') := by
  have s63 : s.size ≤ 63 := nm_le hn.out
  have c0 := hD.out.c0
  have c0' : ∀ o, (w.alloc o).cell? ⟨d, 0, none⟩ = some (.map (some m)) := fun o => (hD.out.below (alloc1 w o)).c0
  have c1 : ∀ o, (w.alloc o).cell? ⟨d, 1, none⟩ = some (.bool full) := fun o => (hD.out.below (alloc1 w o)).c1
  have g1 : ∀ o, (w.alloc o).cell? ⟨1, 0, none⟩ = some (er (E 1)) := fun o => (hE.out.below (alloc1 w o)) 1 (by omega)
  have hL := look_t hD.out.own (s := s) (by unfold maxLen; omega)
  have hl : ∀ o ty, (Builtin.len_ #[54] ty #[.map (some m)]).run Tryd.prog (w.alloc o) = .ok (.int .i64 (Maps.size D)) (w.alloc o) := fun o ty => (hD.out.below (alloc1 w o)).own.len Tryd.underlying54 ty
  cases full with
  | true =>
    obtain ⟨f, Hf⟩ : ∃ f, Hid ((vw D s).getD f0 = f) := ⟨_, rfl⟩
    obtain ⟨h, Hh⟩ : ∃ h, Hid ((vw D s).isSome = h) := ⟨_, rfl⟩
    rw [Hf.out, Hh.out] at hL
    obtain ⟨x, y, c⟩ := f
    have hL2 : (Instr.lookup 54 (.map (some m)) (.string s) true).run Tryd.prog w = .ok (.tuple #[.agg #[.string x, .string y, .bool c], .bool h]) w := hL
    clear hL hl
    go_enter Tryd.func13, Tryd.ntmps13
    go_wp2_with (go_at_call 37; refine (name_n s (by omega) _).mono ?_; rintro e w0 ⟨rfl, h00⟩; rw [h00, hn.out]; clear h00)
    go_ret
    exact ⟨rfl, alloc1 w _⟩
  | false =>
    obtain ⟨hv, h5⟩ := hf.out.resolve_left (by simp)
    rw [hv] at hL
    have hL2 : (Instr.lookup 54 (.map (some m)) (.string s) true).run Tryd.prog w = .ok (.tuple #[.agg #[.string ⟨#[]⟩, .string ⟨#[]⟩, .bool false], .bool false]) w := hL
    obtain ⟨z, Hz⟩ : ∃ z, Hid (Maps.size D = z) := ⟨_, rfl⟩
    simp only [Hz.out] at hl
    have i1 : (512 : Int) ≤ (z : Int) := by have := Hz.out; omega
    clear hL h5
    go_enter Tryd.func13, Tryd.ntmps13
    go_wp2_with (go_at_call 37; refine (name_n s (by omega) _).mono ?_; rintro e w0 ⟨rfl, h00⟩; rw [h00, hn.out]; clear h00)
    go_ret
    exact ⟨rfl, alloc1 w _⟩
set_option maxHeartbeats 1000000 in
theorem sync_name {w : World} {d m : Nat} {D : DataW Unit} {full : Bool} {lost : Int} (hD : Hid (Drv w d m D full lost)) (s : ByteArray) (hs : s.size ≤ 9223372036854775807) {E : Nat → Addr} (hE : Hid (Er w E)) (hn : Hid (nm s = false)) :
    Calls Tryd.prog 14 #[.pointer (some ⟨d, 0, none⟩), .string s] w fun e w' => e = .returned (er (E 0)) ∧ Hid (Below w.heap.size w w') := by
  go_enter Tryd.func14, Tryd.ntmps14
  go_wp2_with (go_at_call 38; refine (find_name hD s hs hE hn).mono ?_; rintro e w1 ⟨rfl, H1⟩)
  go_ret
  exact ⟨rfl, H1.out.trans ((alloc1 w1 _).mono H1.out.size)⟩
set_option maxHeartbeats 1000000 in
theorem sync_full {w : World} {d m : Nat} {D : DataW Unit} {lost : Int} (hD : Hid (Drv w d m D true lost)) (s : ByteArray) (f : Fl) {E : Nat → Addr} (hE : Hid (Er w E)) (hn : Hid (nm s = true)) (hv : Hid (vw D s = some f)) :
    Calls Tryd.prog 14 #[.pointer (some ⟨d, 0, none⟩), .string s] w fun e w' => e = .returned (er (E 1)) ∧ Hid (Below w.heap.size w w') := by
  obtain ⟨x, y, c⟩ := f
  go_enter Tryd.func14, Tryd.ntmps14
  go_wp2_with (first
    | (go_at_call 38; refine (find_ok hD s ⟨x, y, c⟩ hn hv).mono ?_; rintro e w1 ⟨rfl, H1⟩
       have c1 : ∀ o, (w1.alloc o).cell? ⟨d, 1, none⟩ = some (.bool true) := fun o => ((hD.out.below H1.out).below (alloc1 w1 o)).c1
       have g1 : ∀ o, (w1.alloc o).cell? ⟨1, 0, none⟩ = some (er (E 1)) := fun o => ((hE.out.below H1.out).below (alloc1 w1 o)) 1 (by omega)))
  go_ret
  exact ⟨rfl, H1.out.trans ((alloc1 w1 _).mono H1.out.size)⟩
set_option maxHeartbeats 1000000 in
theorem delete_name {w : World} {d m : Nat} {D : DataW Unit} {full : Bool} {lost : Int} (hD : Hid (Drv w d m D full lost)) (s : ByteArray) (hs : s.size ≤ 9223372036854775807) {E : Nat → Addr} (hE : Hid (Er w E)) (hn : Hid (nm s = false)) :
    Calls Tryd.prog 15 #[.pointer (some ⟨d, 0, none⟩), .string s] w fun e w' => e = .returned (er (E 0)) ∧ Hid (Below w.heap.size w w') := by
  go_enter Tryd.func15, Tryd.ntmps15
  go_wp2_with (go_at_call 38; refine (find_name hD s hs hE hn).mono ?_; rintro e w1 ⟨rfl, H1⟩)
  go_ret
  exact ⟨rfl, H1.out.trans ((alloc1 w1 _).mono H1.out.size)⟩
set_option maxHeartbeats 1000000 in
theorem rename_to {w : World} {d : Nat} (s t : ByteArray) (ht : t.size ≤ 9223372036854775807) {E : Nat → Addr} (hE : Hid (Er w E)) (hn : Hid (nm t = false)) :
    Calls Tryd.prog 17 #[.pointer (some ⟨d, 0, none⟩), .string s, .string t] w fun e w' => e = .returned (er (E 0)) ∧ w' = w := by
  have g0 := hE.out 0 (by omega)
  go_enter Tryd.func17, Tryd.ntmps17
  go_wp2_with (go_at_call 37; refine (name_n t ht _).mono ?_; rintro e w0 ⟨rfl, h00⟩; rw [h00, hn.out]; clear h00)
  go_ret
  exact ⟨rfl, rfl⟩
set_option maxHeartbeats 1000000 in
theorem rename_name {w : World} {d m : Nat} {D : DataW Unit} {full : Bool} {lost : Int} (hD : Hid (Drv w d m D full lost)) (s t : ByteArray) (hs : s.size ≤ 9223372036854775807) {E : Nat → Addr} (hE : Hid (Er w E)) (ht : Hid (nm t = true)) (hn : Hid (nm s = false)) :
    Calls Tryd.prog 17 #[.pointer (some ⟨d, 0, none⟩), .string s, .string t] w fun e w' => e = .returned (er (E 0)) ∧ Hid (Below w.heap.size w w') := by
  have t63 : t.size ≤ 63 := nm_le ht.out
  go_enter Tryd.func17, Tryd.ntmps17
  go_wp2_with (first
    | (go_at_call 37; refine (name_n t (by omega) _).mono ?_; rintro e w0 ⟨rfl, h00⟩; rw [h00, ht.out]; clear h00)
    | (go_at_call 38; refine (find_name hD s hs hE hn).mono ?_; rintro e w1 ⟨rfl, H1⟩))
  go_ret
  exact ⟨rfl, H1.out.trans ((alloc1 w1 _).mono H1.out.size)⟩
set_option maxHeartbeats 1000000 in
theorem rename_gone {w : World} {d m : Nat} {D : DataW Unit} {full : Bool} {lost : Int} (hD : Hid (Drv w d m D full lost)) (s t : ByteArray) {E : Nat → Addr} (hE : Hid (Er w E)) (ht : Hid (nm t = true)) (hn : Hid (nm s = true)) (hv : Hid (vw D s = none)) :
    Calls Tryd.prog 17 #[.pointer (some ⟨d, 0, none⟩), .string s, .string t] w fun e w' => e = .returned (er (E 8)) ∧ Hid (Below w.heap.size w w') := by
  have t63 : t.size ≤ 63 := nm_le ht.out
  go_enter Tryd.func17, Tryd.ntmps17
  go_wp2_with (first
    | (go_at_call 37; refine (name_n t (by omega) _).mono ?_; rintro e w0 ⟨rfl, h00⟩; rw [h00, ht.out]; clear h00)
    | (go_at_call 38; refine (find_gone hD s hE hn hv).mono ?_; rintro e w1 ⟨rfl, H1⟩))
  go_ret
  exact ⟨rfl, H1.out.trans ((alloc1 w1 _).mono H1.out.size)⟩
theorem fill_drv {w : World} {d m : Nat} {D : DataW Unit} {full : Bool} {lost : Int} (h : Drv w d m D full lost) (b : Bool) : Drv (w.setCell ⟨d, 1, none⟩ (.bool b)) d m D b lost ∧ ChD w (w.setCell ⟨d, 1, none⟩ (.bool b)) d m := by
  have hl := h.lt
  have hb := h.blk
  refine ⟨⟨?_, ?_, h.size, h.good⟩, ?_⟩
  · have hb2 : w.heap[d] = .cells #[.map (some m), .bool full, .int .i64 lost] 56 (0, 0) := by
      rw [Array.getElem?_eq_getElem hl] at hb
      exact Option.some.inj hb
    simp [World.setCell, hl, Array.getElem_modify, hb2]
  · exact h.own.setCell (by show m ≠ d; exact h.ne) _
  · exact ⟨rfl, rfl, rfl, by simp [World.setCell], fun k _ h2 _ => Below.heap_setCell w ⟨d, 1, none⟩ _ k h2⟩
set_option maxHeartbeats 1000000 in
theorem fill_n {w : World} {d m : Nat} {D : DataW Unit} {full : Bool} {lost : Int} (hD : Hid (Drv w d m D full lost)) (b : Bool) :
    Calls Tryd.prog 18 #[.pointer (some ⟨d, 0, none⟩), .bool b] w fun e w' => e = .returned (.tuple #[]) ∧ Hid (Drv w' d m D b lost ∧ ChD w w' d m) := by
  have c1 := hD.out.c1
  have f1 : w.frozen? ⟨d, 1, none⟩ = false := by simp [World.frozen?, hD.out.blk]
  have F := fill_drv hD.out b
  go_enter Tryd.func18, Tryd.ntmps18
  go_wp2
  go_end0
  exact ⟨rfl, F⟩
end Go.Proofs.YtdoenacobmebpaaDoor
