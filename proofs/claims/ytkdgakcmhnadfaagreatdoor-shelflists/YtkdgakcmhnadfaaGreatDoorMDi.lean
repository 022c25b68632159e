import Derived.Test.YtkdgakcmhnadfaaGreatDoorMDc
/- Di -/
/- A drive that answers errors: each call at whatever name, the file f untouched. -/
/- errors turned -/
namespace Go.Proofs.YtkdgakcmhnadfaaGreatDoor
open Go.ChangeShapes Go.WideShapes Go.ChangeAt Go.RowKit
set_option maxRecDepth 20000
set_option linter.unusedVariables false
set_option linter.unusedSimpArgs false
set_option maxHeartbeats 1000000 in
theorem write_name {w : World} {d : Nat} (s : ByteArray) (hs : s.size ≤ 9223372036854775807) {E : Nat → Addr} (hE : Hid (Er w E)) (hn : Hid (nm s = false)) (v : Value) :
    Calls Tryz.prog 42 #[.pointer (some ⟨d, 0, none⟩), .string s, v] w fun e w' => e = .returned (er (E 8)) ∧ w' = w := by
  have g0 := hE.out 8 (by omega)
  go_enter Tryz.func42, Tryz.ntmps42
  go_wp2_with (go_at_call 75; refine (name_n s hs _).mono ?_; rintro e w0 ⟨rfl, h00⟩; rw [h00, hn.out]; clear h00)
  go_ret
  exact ⟨rfl, rfl⟩
set_option maxHeartbeats 1000000 in
theorem write_full {w : World} {d m : Nat} {D : DataW Unit} {full : Bool} {lost : Int} (hD : Hid (Drv w d m D full lost)) (s : ByteArray) {E : Nat → Addr} (hE : Hid (Er w E)) (hn : Hid (nm s = true)) (hf : Hid (full = true ∨ (vw D s = none ∧ 512 ≤ Maps.size D))) (v : Value) :
    Calls Tryz.prog 42 #[.pointer (some ⟨d, 0, none⟩), .string s, v] w fun e w' => e = .returned (er (E 1)) ∧ Hid (Below w.heap.size w w') := by
  have s63 : s.size ≤ 63 := nm_le hn.out
  have c0 := hD.out.c0
  have c0' : ∀ o, (w.alloc o).cell? ⟨d, 0, none⟩ = some (.map (some m)) := fun o => (hD.out.below (alloc1 w o)).c0
  have c1 : ∀ o, (w.alloc o).cell? ⟨d, 1, none⟩ = some (.bool full) := fun o => (hD.out.below (alloc1 w o)).c1
  have g1 : ∀ o, (w.alloc o).cell? ⟨1, 0, none⟩ = some (er (E 1)) := fun o => (hE.out.below (alloc1 w o)) 1 (by omega)
  have hL := look_t hD.out.own (s := s) (by unfold maxLen; omega)
  have hl : ∀ o ty, (Builtin.len_ #[94] ty #[.map (some m)]).run Tryz.prog (w.alloc o) = .ok (.int .i64 (Maps.size D)) (w.alloc o) := fun o ty => (hD.out.below (alloc1 w o)).own.len Tryz.underlying94 ty
  cases full with
  | true =>
    obtain ⟨f, Hf⟩ : ∃ f, Hid ((vw D s).getD f0 = f) := ⟨_, rfl⟩
    obtain ⟨h, Hh⟩ : ∃ h, Hid ((vw D s).isSome = h) := ⟨_, rfl⟩
    rw [Hf.out, Hh.out] at hL
    obtain ⟨x, y, c⟩ := f
    have hL2 : (Instr.lookup 94 (.map (some m)) (.string s) true).run Tryz.prog w = .ok (.tuple #[.agg #[.string x, .string y, .bool c], .bool h]) w := hL
    clear hL hl
    go_enter Tryz.func42, Tryz.ntmps42
    go_wp2_with (go_at_call 75; refine (name_n s (by omega) _).mono ?_; rintro e w0 ⟨rfl, h00⟩; rw [h00, hn.out]; clear h00)
    go_ret
    exact ⟨rfl, alloc1 w _⟩
  | false =>
    obtain ⟨hv, h5⟩ := hf.out.resolve_left (by simp)
    rw [hv] at hL
    have hL2 : (Instr.lookup 94 (.map (some m)) (.string s) true).run Tryz.prog w = .ok (.tuple #[.agg #[.string ⟨#[]⟩, .string ⟨#[]⟩, .bool false], .bool false]) w := hL
    obtain ⟨z, Hz⟩ : ∃ z, Hid (Maps.size D = z) := ⟨_, rfl⟩
    simp only [Hz.out] at hl
    have i1 : (512 : Int) ≤ (z : Int) := by have := Hz.out; omega
    clear hL h5
    go_enter Tryz.func42, Tryz.ntmps42
    go_wp2_with (go_at_call 75; refine (name_n s (by omega) _).mono ?_; rintro e w0 ⟨rfl, h00⟩; rw [h00, hn.out]; clear h00)
    go_ret
    exact ⟨rfl, alloc1 w _⟩
set_option maxHeartbeats 1000000 in
theorem sync_name {w : World} {d m : Nat} {D : DataW Unit} {full : Bool} {lost : Int} (hD : Hid (Drv w d m D full lost)) (s : ByteArray) (hs : s.size ≤ 9223372036854775807) {E : Nat → Addr} (hE : Hid (Er w E)) (hn : Hid (nm s = false)) :
    Calls Tryz.prog 44 #[.pointer (some ⟨d, 0, none⟩), .string s] w fun e w' => e = .returned (er (E 8)) ∧ Hid (Below w.heap.size w w') := by
  go_enter Tryz.func44, Tryz.ntmps44
  go_wp2_with (go_at_call 79; refine (find_name hD s hs hE hn).mono ?_; rintro e w1 ⟨rfl, H1⟩)
  go_ret
  exact ⟨rfl, H1.out.trans ((alloc1 w1 _).mono H1.out.size)⟩
set_option maxHeartbeats 1000000 in
theorem sync_full {w : World} {d m : Nat} {D : DataW Unit} {lost : Int} (hD : Hid (Drv w d m D true lost)) (s : ByteArray) (f : Fl) {E : Nat → Addr} (hE : Hid (Er w E)) (hn : Hid (nm s = true)) (hv : Hid (vw D s = some f)) :
    Calls Tryz.prog 44 #[.pointer (some ⟨d, 0, none⟩), .string s] w fun e w' => e = .returned (er (E 1)) ∧ Hid (Below w.heap.size w w') := by
  obtain ⟨x, y, c⟩ := f
  go_enter Tryz.func44, Tryz.ntmps44
  go_wp2_with (first
    | (go_at_call 79; refine (find_ok hD s ⟨x, y, c⟩ hn hv).mono ?_; rintro e w1 ⟨rfl, H1⟩
       have c1 : ∀ o, (w1.alloc o).cell? ⟨d, 1, none⟩ = some (.bool true) := fun o => ((hD.out.below H1.out).below (alloc1 w1 o)).c1
       have g1 : ∀ o, (w1.alloc o).cell? ⟨1, 0, none⟩ = some (er (E 1)) := fun o => ((hE.out.below H1.out).below (alloc1 w1 o)) 1 (by omega)))
  go_ret
  exact ⟨rfl, H1.out.trans ((alloc1 w1 _).mono H1.out.size)⟩
set_option maxHeartbeats 1000000 in
theorem delete_name {w : World} {d m : Nat} {D : DataW Unit} {full : Bool} {lost : Int} (hD : Hid (Drv w d m D full lost)) (s : ByteArray) (hs : s.size ≤ 9223372036854775807) {E : Nat → Addr} (hE : Hid (Er w E)) (hn : Hid (nm s = false)) :
    Calls Tryz.prog 64 #[.pointer (some ⟨d, 0, none⟩), .string s] w fun e w' => e = .returned (er (E 8)) ∧ Hid (Below w.heap.size w w') := by
  go_enter Tryz.func64, Tryz.ntmps64
  go_wp2_with (go_at_call 79; refine (find_name hD s hs hE hn).mono ?_; rintro e w1 ⟨rfl, H1⟩)
  go_ret
  exact ⟨rfl, H1.out.trans ((alloc1 w1 _).mono H1.out.size)⟩
set_option maxHeartbeats 1000000 in
theorem rename_to {w : World} {d : Nat} (s t : ByteArray) (ht : t.size ≤ 9223372036854775807) {E : Nat → Addr} (hE : Hid (Er w E)) (hn : Hid (nm t = false)) :
    Calls Tryz.prog 93 #[.pointer (some ⟨d, 0, none⟩), .string s, .string t] w fun e w' => e = .returned (er (E 8)) ∧ w' = w := by
  have g0 := hE.out 8 (by omega)
  go_enter Tryz.func93, Tryz.ntmps93
  go_wp2_with (go_at_call 75; refine (name_n t ht _).mono ?_; rintro e w0 ⟨rfl, h00⟩; rw [h00, hn.out]; clear h00)
  go_ret
  exact ⟨rfl, rfl⟩
set_option maxHeartbeats 1000000 in
theorem rename_name {w : World} {d m : Nat} {D : DataW Unit} {full : Bool} {lost : Int} (hD : Hid (Drv w d m D full lost)) (s t : ByteArray) (hs : s.size ≤ 9223372036854775807) {E : Nat → Addr} (hE : Hid (Er w E)) (ht : Hid (nm t = true)) (hn : Hid (nm s = false)) :
    Calls Tryz.prog 93 #[.pointer (some ⟨d, 0, none⟩), .string s, .string t] w fun e w' => e = .returned (er (E 8)) ∧ Hid (Below w.heap.size w w') := by
  have t63 : t.size ≤ 63 := nm_le ht.out
  go_enter Tryz.func93, Tryz.ntmps93
  go_wp2_with (first
    | (go_at_call 75; refine (name_n t (by omega) _).mono ?_; rintro e w0 ⟨rfl, h00⟩; rw [h00, ht.out]; clear h00)
    | (go_at_call 79; refine (find_name hD s hs hE hn).mono ?_; rintro e w1 ⟨rfl, H1⟩))
  go_ret
  exact ⟨rfl, H1.out.trans ((alloc1 w1 _).mono H1.out.size)⟩
set_option maxHeartbeats 1000000 in
theorem rename_gone {w : World} {d m : Nat} {D : DataW Unit} {full : Bool} {lost : Int} (hD : Hid (Drv w d m D full lost)) (s t : ByteArray) {E : Nat → Addr} (hE : Hid (Er w E)) (ht : Hid (nm t = true)) (hn : Hid (nm s = true)) (hv : Hid (vw D s = none)) :
    Calls Tryz.prog 93 #[.pointer (some ⟨d, 0, none⟩), .string s, .string t] w fun e w' => e = .returned (er (E 3)) ∧ Hid (Below w.heap.size w w') := by
  have t63 : t.size ≤ 63 := nm_le ht.out
  go_enter Tryz.func93, Tryz.ntmps93
  go_wp2_with (first
    | (go_at_call 75; refine (name_n t (by omega) _).mono ?_; rintro e w0 ⟨rfl, h00⟩; rw [h00, ht.out]; clear h00)
    | (go_at_call 79; refine (find_gone hD s hE hn hv).mono ?_; rintro e w1 ⟨rfl, H1⟩))
  go_ret
  exact ⟨rfl, H1.out.trans ((alloc1 w1 _).mono H1.out.size)⟩
theorem fill_drv {w : World} {d m : Nat} {D : DataW Unit} {full : Bool} {lost : Int} (h : Drv w d m D full lost) (b : Bool) : Drv (w.setCell ⟨d, 1, none⟩ (.bool b)) d m D b lost ∧ ChD w (w.setCell ⟨d, 1, none⟩ (.bool b)) d m := by
  have hl := h.lt
  have hb := h.blk
  refine ⟨⟨?_, ?_, h.size, h.good⟩, ?_⟩
  · have hb2 : w.heap[d] = .cells #[.map (some m), .bool full, .int .i64 lost] 96 (0, 0) := by
      rw [Array.getElem?_eq_getElem hl] at hb
      exact Option.some.inj hb
    simp [World.setCell, hl, Array.getElem_modify, hb2]
  · exact h.own.setCell (by show m ≠ d; exact h.ne) _
  · exact ⟨rfl, rfl, rfl, by simp [World.setCell], fun k _ h2 _ => Below.heap_setCell w ⟨d, 1, none⟩ _ k h2⟩
set_option maxHeartbeats 1000000 in
theorem fill_n {w : World} {d m : Nat} {D : DataW Unit} {full : Bool} {lost : Int} (hD : Hid (Drv w d m D full lost)) (b : Bool) :
    Calls Tryz.prog 18 #[.pointer (some ⟨d, 0, none⟩), .bool b] w fun e w' => e = .returned (.tuple #[]) ∧ Hid (Drv w' d m D b lost ∧ ChD w w' d m) := by
  have c1 := hD.out.c1
  have f1 : w.frozen? ⟨d, 1, none⟩ = false := by simp [World.frozen?, hD.out.blk]
  have F := fill_drv hD.out b
  go_enter Tryz.func18, Tryz.ntmps18
  go_wp2
  go_end0
  exact ⟨rfl, F⟩
end Go.Proofs.YtkdgakcmhnadfaaGreatDoor

/- Kw -/
/- A drive by what lies under each name, full or not, however often lost. -/
namespace Go.Proofs.YtkdgakcmhnadfaaGreatDoor
open Go.ChangeShapes Go.WideShapes Go.ChangeAt Go.RowKit
set_option maxRecDepth 20000
set_option linter.unusedVariables false
set_option linter.unusedSimpArgs false
def Dw (w : World) (d m : Nat) (v : ByteArray → Option Fl) (k : Nat) (fu : Bool) : Prop := ∃ D lo, Drv w d m D fu lo ∧ (∀ t, vw D t = v t) ∧ Maps.size D ≤ k
theorem Dw.below {w w' : World} {d m : Nat} {v : ByteArray → Option Fl} {k : Nat} {fu : Bool} (h : Dw w d m v k fu) (hb : Below w.heap.size w w') : Dw w' d m v k fu := by
  obtain ⟨D, lo, h1, h2, h3⟩ := h
  exact ⟨D, lo, h1.below hb, h2, h3⟩
theorem Dw.lt {w : World} {d m : Nat} {v : ByteArray → Option Fl} {k : Nat} {fu : Bool} (h : Dw w d m v k fu) : d < w.heap.size ∧ m < w.heap.size := by
  obtain ⟨D, lo, h1, h2, h3⟩ := h
  exact ⟨h1.lt, h1.mlt⟩
theorem Dv.dw {w : World} {d m : Nat} {v : ByteArray → Option Fl} {k : Nat} (h : Dv w d m v k) : Dw w d m v k false := by
  obtain ⟨D, h1, h2, h3⟩ := h
  exact ⟨D, 0, h1, h2, h3⟩
theorem Dw.good {w : World} {d m : Nat} {v : ByteArray → Option Fl} {k : Nat} {fu : Bool} (h : Dw w d m v k fu) {t : ByteArray} (ht : (v t).isSome = true) : nm t = true := by
  obtain ⟨D, lo, h1, h2, h3⟩ := h
  exact h1.good t (by rw [h2 t]; exact ht)
section
variable {w : World} {d m : Nat} {v : ByteArray → Option Fl} {k : Nat} {fu : Bool}
theorem new_w (w : World) : Calls Tryz.prog 28 #[] w fun e w' => ∃ d m, e = .returned (.pointer (some ⟨d, 0, none⟩)) ∧ Hid (Dw w' d m (fun _ => none) 0 false ∧ w.heap.size ≤ d ∧ w.heap.size ≤ m ∧ Below w.heap.size w w') := by
  refine (dnew_n w).mono ?_
  rintro e w' ⟨d, m, rfl, H⟩
  exact ⟨d, m, rfl, ⟨_, _, H.out.1, fun t => rfl, Nat.le_refl _⟩, H.out.2⟩
theorem write_w (hD : Hid (Dw w d m v k false)) (hk : Hid (k < 512)) (s : ByteArray) {a : Option Addr} {n c : Nat} {l : List Nat} (hS : Hid (Sln w a n l)) (hn : Hid (nm s = true)) :
    Calls Tryz.prog 42 #[.pointer (some ⟨d, 0, none⟩), .string s, .slice a n c] w fun e w' => e = .returned .nilIface ∧ Hid (Dw w' d m (upd v s (some ⟨spell l, ((v s).getD f0).s, ((v s).getD f0).h⟩)) (k + 1) false ∧ ChD w w' d m) := by
  obtain ⟨D, lo, h1, h2, h3⟩ := hD.out
  refine (write_ok (k := c) (show Hid (Drv w d m D false lo) from h1) s hS hn (.inr (by have := hk.out; omega))).mono ?_
  rintro e w' ⟨rfl, H⟩
  refine ⟨rfl, ⟨_, _, H.out.1, fun t => ?_, ?_⟩, H.out.2⟩
  · rw [vw_put h1.isMap, h2 s]
    unfold upd
    split
    · rfl
    · exact h2 t
  · have := put_le h1.tidy s ⟨spell l, ((vw D s).getD f0).s, ((vw D s).getD f0).h⟩
    omega
theorem sync_w (hD : Hid (Dw w d m v k false)) (s : ByteArray) (f : Fl) (hn : Hid (nm s = true)) (hv : Hid (v s = some f)) :
    Calls Tryz.prog 44 #[.pointer (some ⟨d, 0, none⟩), .string s] w fun e w' => e = .returned .nilIface ∧ Hid (Dw w' d m (upd v s (some ⟨f.b, f.b, true⟩)) k false ∧ ChD w w' d m) := by
  obtain ⟨D, lo, h1, h2, h3⟩ := hD.out
  have h4 : vw D s = some f := (h2 s).trans hv.out
  refine (sync_ok (show Hid (Drv w d m D false lo) from h1) s f hn h4).mono ?_
  rintro e w' ⟨rfl, H⟩
  refine ⟨rfl, ⟨_, _, H.out.1, fun t => ?_, ?_⟩, H.out.2⟩
  · rw [vw_put h1.isMap]
    unfold upd
    split
    · rfl
    · exact h2 t
  · rw [put_size h1.tidy, h4]; exact h3
theorem sync_gone_w (hD : Hid (Dw w d m v k fu)) (s : ByteArray) {E : Nat → Addr} (hE : Hid (Er w E)) (hn : Hid (nm s = true)) (hv : Hid (v s = none)) :
    Calls Tryz.prog 44 #[.pointer (some ⟨d, 0, none⟩), .string s] w fun e w' => e = .returned (er (E 3)) ∧ Hid (Dw w' d m v k fu ∧ ChD w w' d m) := by
  obtain ⟨D, lo, h1, h2, h3⟩ := hD.out
  refine (sync_gone (show Hid (Drv w d m D fu lo) from h1) s hE hn ((h2 s).trans hv.out)).mono ?_
  rintro e w' ⟨rfl, H⟩
  exact ⟨rfl, hD.out.below H.out, ChD.of_below H.out⟩
theorem delete_w (hD : Hid (Dw w d m v k fu)) (s : ByteArray) (f : Fl) (hn : Hid (nm s = true)) (hv : Hid (v s = some f)) :
    Calls Tryz.prog 64 #[.pointer (some ⟨d, 0, none⟩), .string s] w fun e w' => e = .returned .nilIface ∧ Hid (Dw w' d m (upd v s none) k fu ∧ ChD w w' d m) := by
  obtain ⟨D, lo, h1, h2, h3⟩ := hD.out
  refine (delete_ok (show Hid (Drv w d m D fu lo) from h1) s f hn ((h2 s).trans hv.out)).mono ?_
  rintro e w' ⟨rfl, H⟩
  refine ⟨rfl, ⟨_, _, H.out.1, fun t => ?_, ?_⟩, H.out.2⟩
  · rw [vw_del]
    unfold upd
    split
    · rfl
    · exact h2 t
  · have := Maps.size_del (k := kl s) h1.tidy; omega
theorem delete_gone_w (hD : Hid (Dw w d m v k fu)) (s : ByteArray) {E : Nat → Addr} (hE : Hid (Er w E)) (hn : Hid (nm s = true)) (hv : Hid (v s = none)) :
    Calls Tryz.prog 64 #[.pointer (some ⟨d, 0, none⟩), .string s] w fun e w' => e = .returned (er (E 3)) ∧ Hid (Dw w' d m v k fu ∧ ChD w w' d m) := by
  obtain ⟨D, lo, h1, h2, h3⟩ := hD.out
  refine (delete_gone (show Hid (Drv w d m D fu lo) from h1) s hE hn ((h2 s).trans hv.out)).mono ?_
  rintro e w' ⟨rfl, H⟩
  exact ⟨rfl, hD.out.below H.out, ChD.of_below H.out⟩
theorem rename_w (hD : Hid (Dw w d m v k fu)) (s t : ByteArray) (f : Fl) (hn : Hid (nm s = true)) (ht : Hid (nm t = true)) (hv : Hid (v s = some f)) :
    Calls Tryz.prog 93 #[.pointer (some ⟨d, 0, none⟩), .string s, .string t] w fun e w' => e = .returned .nilIface ∧ Hid (Dw w' d m (upd (upd v s none) t (some f)) k fu ∧ ChD w w' d m) := by
  obtain ⟨D, lo, h1, h2, h3⟩ := hD.out
  have h4 : vw D s = some f := (h2 s).trans hv.out
  refine (rename_ok (show Hid (Drv w d m D fu lo) from h1) s t f hn ht h4).mono ?_
  rintro e w' ⟨rfl, H⟩
  refine ⟨rfl, ⟨_, _, H.out.1, fun u => ?_, ?_⟩, H.out.2⟩
  · rw [vw_put (h1.isMap.del _), vw_del]
    unfold upd
    split
    · rfl
    · split
      · rfl
      · exact h2 u
  · have e1 := Maps.size_del (k := kl s) h1.tidy
    have e2 : Maps.has D (kl s) = true := by rw [← vw_some, h4]; rfl
    rw [e2] at e1
    simp at e1
    have := put_le (h1.tidy.del (kl s)) t f
    omega
theorem crash_w (hD : Hid (Dw w d m v k fu)) :
    Calls Tryz.prog 19 #[.pointer (some ⟨d, 0, none⟩)] w fun e w' => e = .returned (.tuple #[]) ∧ Hid (Dw w' d m (fun t => cr (v t)) 512 fu ∧ ChD w w' d m) := by
  obtain ⟨D, lo, h1, h2, h3⟩ := hD.out
  refine (crash_n (show Hid (Drv w d m D fu lo) from h1)).mono ?_
  rintro e w' ⟨D', rfl, H⟩
  exact ⟨rfl, ⟨D', _, H.out.1, fun t => by rw [H.out.2.2 t, h2 t], H.out.1.size⟩, H.out.2.1⟩
theorem read_w (hD : Hid (Dw w d m v k fu)) (s : ByteArray) (f : Fl) (hn : Hid (nm s = true)) (hv : Hid (v s = some f)) (hb : f.b.size ≤ 140737488352256) :
    Calls Tryz.prog 58 #[.pointer (some ⟨d, 0, none⟩), .string s] w fun e w' => ∃ g k' c, e = .returned (.tuple #[.slice (some ⟨g, 0, none⟩) k' c, .nilIface]) ∧ Hid (Sln w' (some ⟨g, 0, none⟩) k' (bytesOf f.b) ∧ Below w.heap.size w w' ∧ w.heap.size ≤ g ∧ k' ≤ c ∧ Dw w' d m v k fu) := by
  obtain ⟨D, lo, h1, h2, h3⟩ := hD.out
  refine (read_ok (show Hid (Drv w d m D fu lo) from h1) s f hn ((h2 s).trans hv.out) hb).mono ?_
  rintro e w' ⟨g, k', c, rfl, H⟩
  exact ⟨g, k', c, rfl, H.out.1, H.out.2.1, H.out.2.2.1, H.out.2.2.2, hD.out.below H.out.2.1⟩
theorem read_gone_w (hD : Hid (Dw w d m v k fu)) (s : ByteArray) {E : Nat → Addr} (hE : Hid (Er w E)) (hn : Hid (nm s = true)) (hv : Hid (v s = none)) :
    Calls Tryz.prog 58 #[.pointer (some ⟨d, 0, none⟩), .string s] w fun e w' => e = .returned (.tuple #[.slice none 0 0, er (E 3)]) ∧ Hid (Below w.heap.size w w' ∧ Dw w' d m v k fu) := by
  obtain ⟨D, lo, h1, h2, h3⟩ := hD.out
  refine (read_gone (show Hid (Drv w d m D fu lo) from h1) s hE hn ((h2 s).trans hv.out)).mono ?_
  rintro e w' ⟨rfl, H⟩
  exact ⟨rfl, H.out, hD.out.below H.out⟩
theorem fill_w (hD : Hid (Dw w d m v k fu)) (b : Bool) :
    Calls Tryz.prog 18 #[.pointer (some ⟨d, 0, none⟩), .bool b] w fun e w' => e = .returned (.tuple #[]) ∧ Hid (Dw w' d m v k b ∧ ChD w w' d m) := by
  obtain ⟨D, lo, h1, h2, h3⟩ := hD.out
  refine (fill_n (show Hid (Drv w d m D fu lo) from h1) b).mono ?_
  rintro e w' ⟨rfl, H⟩
  exact ⟨rfl, ⟨D, lo, H.out.1, h2, h3⟩, H.out.2⟩
theorem write_full_w (hD : Hid (Dw w d m v k true)) (s : ByteArray) {E : Nat → Addr} (hE : Hid (Er w E)) (hn : Hid (nm s = true)) (x : Value) :
    Calls Tryz.prog 42 #[.pointer (some ⟨d, 0, none⟩), .string s, x] w fun e w' => e = .returned (er (E 1)) ∧ Hid (Below w.heap.size w w') := by
  obtain ⟨D, lo, h1, h2, h3⟩ := hD.out
  exact write_full (show Hid (Drv w d m D true lo) from h1) s hE hn (.inl rfl) x
end
end Go.Proofs.YtkdgakcmhnadfaaGreatDoor
