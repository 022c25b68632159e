import Derived.Test.YtkdgakcmhnadfaaGreatDoorMKa
import Derived.Test.YtkdgakcmhnadfaaGreatDoorMHa
import Derived.Test.YtkdgakcmhnadfaaGreatDoorMKd
import Derived.Test.YtkdgakcmhnadfaaGreatDoorMDi
/- Kc -/
/- isFrameOf of package shelf: a frame of this blob and this node's shard; errors.Is of nil. -/
namespace Go.Proofs.YtkdgakcmhnadfaaGreatDoor
open Go.ChangeShapes Go.WideShapes Go.ChangeAt Go.RowKit
set_option maxRecDepth 20000
set_option linter.unusedVariables false
set_option linter.unusedSimpArgs false
theorem nil_er (a : Addr) (w : World) : (binOp .eql 26 .nilIface (er a)).run Tryz.prog w = .ok (.bool false) w := by
  first
  | rfl
  | (simp [binOp, go_sem])
theorem is_nil (a : Addr) (w : World) : Calls Tryz.prog 60 #[.nilIface, er a] w fun e w' => e = .returned (.bool false) ∧ w' = w := by
  have h := nil_er a
  go_enter Tryz.func60, Tryz.ntmps60
  go_wp2
  go_ret
  exact ⟨rfl, rfl⟩
theorem eq_id (a b c : Int) (w : World) : (Op.equalIn 10000 32 (.agg #[.int .i64 a, .int .i64 b, .int .i64 c]) (.agg #[.int .i64 a, .int .i64 b, .int .i64 c])).run Tryz.prog w = .ok true w := by
  rw [run_equalIn_struct w 9999 32 _ _ (by kernel_rfl) (by kernel_rfl)]
  simp only [Program.fieldsOf, Tryz.underlying32, Op.eqFields]
  rw [if_pos (by decide)]
  simp only [Sem.run_bind, part3 #[.int .i64 a, .int .i64 b, .int .i64 c] 0 a rfl, Result.andThen_ok, eqi, Bool.not_true, Bool.false_eq_true, if_false]
  rw [if_pos (by decide)]
  simp only [Sem.run_bind, part3 #[.int .i64 a, .int .i64 b, .int .i64 c] 1 b rfl, Result.andThen_ok, eqi, Bool.not_true, Bool.false_eq_true, if_false]
  rw [if_pos (by decide)]
  simp only [Sem.run_bind, part3 #[.int .i64 a, .int .i64 b, .int .i64 c] 2 c rfl, Result.andThen_ok, eqi, Bool.not_true, Bool.false_eq_true, if_false, Sem.run_pure]
/- what isFrameOf reads -/
structure Iq (W : World) (gs gb g s1 s2 s3 s4 s5 : Nat) : Prop where
  x0 : W.cell? ⟨gs, 0, none⟩ = some (.int .i64 (s1 : Int))
  x1 : W.cell? ⟨gs, 1, none⟩ = some (.int .i64 (s2 : Int))
  x2 : W.cell? ⟨gs, 2, none⟩ = some (.int .i64 (s3 : Int))
  x3 : W.cell? ⟨gs, 3, none⟩ = some (.int .i64 (s4 : Int))
  y0 : W.cell? ⟨gb, 0, none⟩ = some (.int .i64 (s1 : Int))
  y1 : W.cell? ⟨gb, 1, none⟩ = some (.int .i64 (s2 : Int))
  y2 : W.cell? ⟨gb, 2, none⟩ = some (.int .i64 (s3 : Int))
  z : W.cell? ⟨g, 0, none⟩ = some (.int .i64 (s4 : Int))
set_option maxHeartbeats 2000000 in
theorem isframe_ok {w : World} {g d : Nat} {a : Option Addr} {n c M : Nat} {F : List Nat} {E : Nat → Addr} {s1 s2 s3 s4 s5 : Nat} (hG : Hid (Shl w g (s4 : Int) d)) (hS : Hid (Sln w a n F)) (hc : Hid (a = none → c = 0)) (hnc : n ≤ c) (hM : Hid (Mst w)) (hE : Hid (Sent w M E)) (h4 : 8 ≤ M) (hK : Hid (Kst w)) (h0 : Hid ((getS F).2.2 = 0)) (hs : Hid ((getS F).1 = [s1, s2, s3, s4, s5])) :
    Calls Tryz.prog 61 #[.pointer (some ⟨g, 0, none⟩), .slice a n c, idv s1 s2 s3] w fun e w' => e = .returned (.bool true) ∧ Hid (Below w.heap.size w w') := by
  have b1 := alloc1 w (.cells #[.int .i64 (s1 : Int), .int .i64 (s2 : Int), .int .i64 (s3 : Int)] 32)
  have S1 : Hid (Sln (w.alloc (.cells #[.int .i64 (s1 : Int), .int .i64 (s2 : Int), .int .i64 (s3 : Int)] 32)) a n F) := hS.out.below b1
  have M1 : Hid (Mst (w.alloc (.cells #[.int .i64 (s1 : Int), .int .i64 (s2 : Int), .int .i64 (s3 : Int)] 32))) := hM.out.below b1 hM.out.lt
  have E1 : Hid (Sent (w.alloc (.cells #[.int .i64 (s1 : Int), .int .i64 (s2 : Int), .int .i64 (s3 : Int)] 32)) M E) := hE.out.below b1
  have K1 : Hid (Kst (w.alloc (.cells #[.int .i64 (s1 : Int), .int .i64 (s2 : Int), .int .i64 (s3 : Int)] 32))) := hK.out.below b1 (kst_pos hK.out)
  have B1 : Hid (Below w.heap.size w (w.alloc (.cells #[.int .i64 (s1 : Int), .int .i64 (s2 : Int), .int .i64 (s3 : Int)] 32))) := b1
  clear b1
  have EQ := eq_id (s1 : Int) (s2 : Int) (s3 : Int)
  go_enter Tryz.func61, Tryz.ntmps61
  go_wp2_with (first
    | (go_at_call 53; refine (get_all S1 hc hnc M1 E1 h4 K1).mono ?_; rintro e w1 ⟨a', m, c', v, rfl, H1⟩
       have hv : v = .nilIface := by have h := H1.out.1; rw [h0.out] at h; exact h
       subst hv
       rw [hs.out]
       simp only [cs, wv, List.map]
       have B2 : Hid (Below w.heap.size w w1) := B1.out.trans (H1.out.2.2.mono B1.out.size)
       have q : ∀ ob, (w1.alloc ob).cell? ⟨g, 0, none⟩ = some (.int .i64 (s4 : Int)) := fun ob => (((B2.out.trans ((alloc1 w1 ob).mono B2.out.size)).cell (p := ⟨g, 0, none⟩) (cell_lt hG.out.c0)).trans hG.out.c0)
       have x0 : ∀ ob, (w1.alloc ob).cell? ⟨w.heap.size, 0, none⟩ = some (.int .i64 (s1 : Int)) := fun ob => ((H1.out.2.2.trans ((alloc1 w1 ob).mono H1.out.2.2.size)).cell (p := ⟨w.heap.size, 0, none⟩) (by simp)).trans (by simp)
       have x1 : ∀ ob, (w1.alloc ob).cell? ⟨w.heap.size, 1, none⟩ = some (.int .i64 (s2 : Int)) := fun ob => ((H1.out.2.2.trans ((alloc1 w1 ob).mono H1.out.2.2.size)).cell (p := ⟨w.heap.size, 1, none⟩) (by simp)).trans (by simp)
       have x2 : ∀ ob, (w1.alloc ob).cell? ⟨w.heap.size, 2, none⟩ = some (.int .i64 (s3 : Int)) := fun ob => ((H1.out.2.2.trans ((alloc1 w1 ob).mono H1.out.2.2.size)).cell (p := ⟨w.heap.size, 2, none⟩) (by simp)).trans (by simp)
       clear H1))
  obtain ⟨gs, Hgs⟩ : ∃ gs, Hid (w1.heap.size = gs) := ⟨_, rfl⟩
  obtain ⟨gb, Hgb⟩ : ∃ gb, Hid (w.heap.size = gb) := ⟨_, rfl⟩
  have K0 : Iq (w1.alloc (.cells #[.int .i64 (s1 : Int), .int .i64 (s2 : Int), .int .i64 (s3 : Int), .int .i64 (s4 : Int), .int .i64 (s5 : Int)] 45)).drew gs gb g s1 s2 s3 s4 s5 := by
    rw [← Hgs.out, ← Hgb.out]
    exact ⟨by simp, by simp, by simp, by simp, x0 _, x1 _, x2 _, q _⟩
  have FIN : Hid (Below w.heap.size w (w1.alloc (.cells #[.int .i64 (s1 : Int), .int .i64 (s2 : Int), .int .i64 (s3 : Int), .int .i64 (s4 : Int), .int .i64 (s5 : Int)] 45)).drew) := (B2.out.trans ((alloc1 w1 _).mono B2.out.size)).drew
  clear x0 x1 x2 q
  refine wp_region_till (S := fun L W => Iq W gs gb g s1 s2 s3 s4 s5) (by kernel_rfl) K0 (fun hS => ?_)
  rw [Hgs.out, Hgb.out]
  clear K0
  refine till_take (i := 0) (v := .nilIface) rfl (by kernel_rfl) (by kernel_rfl) (by kernel_rfl) (fun _ _ _ h => h) (fun L w => Iff.rfl) (Or.inl ⟨by rfl, fun w => by go_simp⟩) hS (fun hSb => ?_)
  simp only [List.getElem_toArray, List.getElem_cons_zero, List.getElem_cons_succ, Act.put, List.setIfInBounds_toArray, List.set_cons_zero, List.set_cons_succ]
  clear hS
  refine till_take (i := 1) (v := .bool true) rfl (by kernel_rfl) (by kernel_rfl) (by kernel_rfl) (fun _ _ _ h => h) (fun L w => Iff.rfl) (Or.inl ⟨by rfl, fun w => by go_simp⟩) hSb (fun hS => ?_)
  simp only [List.getElem_toArray, List.getElem_cons_zero, List.getElem_cons_succ, Act.put, List.setIfInBounds_toArray, List.set_cons_zero, List.set_cons_succ]
  clear hSb
  refine till_take (i := 2) (v := .bool true) rfl (by kernel_rfl) (by kernel_rfl) (by kernel_rfl) (fun _ _ _ h => h) (fun L w => Iff.rfl) (Or.inl ⟨by rfl, fun w => by go_simp⟩) hS (fun hSb => ?_)
  simp only [List.getElem_toArray, List.getElem_cons_zero, List.getElem_cons_succ, Act.put, List.setIfInBounds_toArray, List.set_cons_zero, List.set_cons_succ]
  clear hS
  refine till_take (i := 3) (v := .pointer (some ⟨gs, 0, none⟩)) rfl (by kernel_rfl) (by kernel_rfl) (by kernel_rfl) (fun _ _ _ h => h) (fun L w => Iff.rfl) (Or.inl ⟨by rfl, fun w => by go_simp⟩) hSb (fun hS => ?_)
  simp only [List.getElem_toArray, List.getElem_cons_zero, List.getElem_cons_succ, Act.put, List.setIfInBounds_toArray, List.set_cons_zero, List.set_cons_succ]
  clear hSb
  refine till_read (i := 4) (c := 6) (v := .agg #[.int .i64 (s1 : Int), .int .i64 (s2 : Int), .int .i64 (s3 : Int)]) (T := fun W => Iq W gs gb g s1 s2 s3 s4 s5) rfl rfl (by kernel_rfl) (by kernel_rfl) (by kernel_rfl) (by kernel_rfl) (by kernel_rfl) (fun _ _ _ h => h) (fun L w => Iff.rfl) (fun L w h1 h2 => h2) (Or.inl ⟨by rfl, fun w h => by have qx0 := h.x0; have qx1 := h.x1; have qx2 := h.x2; go_simp⟩) hS (fun hSb => ?_)
  simp only [List.getElem_toArray, List.getElem_cons_zero, List.getElem_cons_succ, Act.put, List.setIfInBounds_toArray, List.set_cons_zero, List.set_cons_succ]
  clear hS
  refine till_read (i := 5) (c := 6) (v := .agg #[.int .i64 (s1 : Int), .int .i64 (s2 : Int), .int .i64 (s3 : Int)]) (T := fun W => Iq W gs gb g s1 s2 s3 s4 s5) rfl rfl (by kernel_rfl) (by kernel_rfl) (by kernel_rfl) (by kernel_rfl) (by kernel_rfl) (fun _ _ _ h => h) (fun L w => Iff.rfl) (fun L w h1 h2 => h2) (Or.inl ⟨by rfl, fun w h => by have qy0 := h.y0; have qy1 := h.y1; have qy2 := h.y2; go_simp⟩) hSb (fun hS => ?_)
  simp only [List.getElem_toArray, List.getElem_cons_zero, List.getElem_cons_succ, Act.put, List.setIfInBounds_toArray, List.set_cons_zero, List.set_cons_succ]
  clear hSb
  refine till_take (i := 6) (v := .bool true) rfl (by kernel_rfl) (by kernel_rfl) (by kernel_rfl) (fun _ _ _ h => h) (fun L w => Iff.rfl) (Or.inl ⟨by rfl, fun w => by go_simp⟩) hS (fun hSb => ?_)
  simp only [List.getElem_toArray, List.getElem_cons_zero, List.getElem_cons_succ, Act.put, List.setIfInBounds_toArray, List.set_cons_zero, List.set_cons_succ]
  clear hS
  refine till_take (i := 7) (v := .bool true) rfl (by kernel_rfl) (by kernel_rfl) (by kernel_rfl) (fun _ _ _ h => h) (fun L w => Iff.rfl) (Or.inl ⟨by rfl, fun w => by go_simp⟩) hSb (fun hS => ?_)
  simp only [List.getElem_toArray, List.getElem_cons_zero, List.getElem_cons_succ, Act.put, List.setIfInBounds_toArray, List.set_cons_zero, List.set_cons_succ]
  clear hSb
  refine till_take (i := 8) (v := .bool true) rfl (by kernel_rfl) (by kernel_rfl) (by kernel_rfl) (fun _ _ _ h => h) (fun L w => Iff.rfl) (Or.inl ⟨by rfl, fun w => by go_simp⟩) hS (fun hSb => ?_)
  simp only [List.getElem_toArray, List.getElem_cons_zero, List.getElem_cons_succ, Act.put, List.setIfInBounds_toArray, List.set_cons_zero, List.set_cons_succ]
  clear hS
  refine till_take (i := 9) (v := .pointer (some ⟨gs, 3, none⟩)) rfl (by kernel_rfl) (by kernel_rfl) (by kernel_rfl) (fun _ _ _ h => h) (fun L w => Iff.rfl) (Or.inl ⟨by rfl, fun w => by go_simp⟩) hSb (fun hS => ?_)
  simp only [List.getElem_toArray, List.getElem_cons_zero, List.getElem_cons_succ, Act.put, List.setIfInBounds_toArray, List.set_cons_zero, List.set_cons_succ]
  clear hSb
  refine till_read (i := 10) (c := 15) (v := .int .i64 (s4 : Int)) (T := fun W => Iq W gs gb g s1 s2 s3 s4 s5) rfl rfl (by kernel_rfl) (by kernel_rfl) (by kernel_rfl) (by kernel_rfl) (by kernel_rfl) (fun _ _ _ h => h) (fun L w => Iff.rfl) (fun L w h1 h2 => h2) (Or.inl ⟨by rfl, fun w h => by have qx3 := h.x3; go_simp⟩) hS (fun hSb => ?_)
  simp only [List.getElem_toArray, List.getElem_cons_zero, List.getElem_cons_succ, Act.put, List.setIfInBounds_toArray, List.set_cons_zero, List.set_cons_succ]
  clear hS
  refine till_take (i := 11) (v := .pointer (some ⟨g, 0, none⟩)) rfl (by kernel_rfl) (by kernel_rfl) (by kernel_rfl) (fun _ _ _ h => h) (fun L w => Iff.rfl) (Or.inl ⟨by rfl, fun w => by go_simp⟩) hSb (fun hS => ?_)
  simp only [List.getElem_toArray, List.getElem_cons_zero, List.getElem_cons_succ, Act.put, List.setIfInBounds_toArray, List.set_cons_zero, List.set_cons_succ]
  clear hSb
  refine till_take (i := 12) (v := .pointer (some ⟨g, 0, none⟩)) rfl (by kernel_rfl) (by kernel_rfl) (by kernel_rfl) (fun _ _ _ h => h) (fun L w => Iff.rfl) (Or.inl ⟨by rfl, fun w => by go_simp⟩) hS (fun hSb => ?_)
  simp only [List.getElem_toArray, List.getElem_cons_zero, List.getElem_cons_succ, Act.put, List.setIfInBounds_toArray, List.set_cons_zero, List.set_cons_succ]
  clear hS
  refine till_take (i := 13) (v := .pointer (some ⟨g, 0, none⟩)) rfl (by kernel_rfl) (by kernel_rfl) (by kernel_rfl) (fun _ _ _ h => h) (fun L w => Iff.rfl) (Or.inl ⟨by rfl, fun w => by go_simp⟩) hSb (fun hS => ?_)
  simp only [List.getElem_toArray, List.getElem_cons_zero, List.getElem_cons_succ, Act.put, List.setIfInBounds_toArray, List.set_cons_zero, List.set_cons_succ]
  clear hSb
  refine till_read (i := 14) (c := 15) (v := .int .i64 (s4 : Int)) (T := fun W => Iq W gs gb g s1 s2 s3 s4 s5) rfl rfl (by kernel_rfl) (by kernel_rfl) (by kernel_rfl) (by kernel_rfl) (by kernel_rfl) (fun _ _ _ h => h) (fun L w => Iff.rfl) (fun L w h1 h2 => h2) (Or.inl ⟨by rfl, fun w h => by have qz := h.z; go_simp⟩) hS (fun hSb => ?_)
  simp only [List.getElem_toArray, List.getElem_cons_zero, List.getElem_cons_succ, Act.put, List.setIfInBounds_toArray, List.set_cons_zero, List.set_cons_succ]
  clear hS
  refine till_take (i := 15) (v := .bool true) rfl (by kernel_rfl) (by kernel_rfl) (by kernel_rfl) (fun _ _ _ h => h) (fun L w => Iff.rfl) (Or.inl ⟨by rfl, fun w => by go_simp⟩) hSb (fun hS => ?_)
  simp only [List.getElem_toArray, List.getElem_cons_zero, List.getElem_cons_succ, Act.put, List.setIfInBounds_toArray, List.set_cons_zero, List.set_cons_succ]
  clear hSb
  refine till_take (i := 16) (v := .bool true) rfl (by kernel_rfl) (by kernel_rfl) (by kernel_rfl) (fun _ _ _ h => h) (fun L w => Iff.rfl) (Or.inl ⟨by rfl, fun w => by go_simp⟩) hS (fun hSb => ?_)
  simp only [List.getElem_toArray, List.getElem_cons_zero, List.getElem_cons_succ, Act.put, List.setIfInBounds_toArray, List.set_cons_zero, List.set_cons_succ]
  clear hS
  refine till_take (i := 17) (v := .bool true) rfl (by kernel_rfl) (by kernel_rfl) (by kernel_rfl) (fun _ _ _ h => h) (fun L w => Iff.rfl) (Or.inl ⟨by rfl, fun w => by go_simp⟩) hSb (fun hS => ?_)
  simp only [List.getElem_toArray, List.getElem_cons_zero, List.getElem_cons_succ, Act.put, List.setIfInBounds_toArray, List.set_cons_zero, List.set_cons_succ]
  clear hSb
  refine till_done (by kernel_rfl) ?_ _
  clear hS
  go_wp2
  go_ret
  exact ⟨rfl, FIN.out⟩
end Go.Proofs.YtkdgakcmhnadfaaGreatDoor

/- Kg -/
/- store of package shelf: written aside, synced, renamed. -/
namespace Go.Proofs.YtkdgakcmhnadfaaGreatDoor
open Go.ChangeShapes Go.WideShapes Go.ChangeAt Go.RowKit
set_option maxRecDepth 20000
set_option linter.unusedVariables false
set_option linter.unusedSimpArgs false
/- what package variables hold -/
structure Env (w : World) (M : Nat) (E : Nat → Addr) : Prop where
  tab : Tab w
  mst : Mst w
  kst : Kst w
  sent : Sent w M E
  big : 9 ≤ M
theorem Env.below {w w' : World} {M : Nat} {E : Nat → Addr} (h : Env w M E) (hb : Below w.heap.size w w') : Env w' M E := ⟨h.tab.below hb, h.mst.below hb h.mst.lt, h.kst.below hb (kst_pos h.kst), h.sent.below hb, h.big⟩
theorem Env.er {w : World} {M : Nat} {E : Nat → Addr} (h : Env w M E) : Er w E := fun g hg => h.sent.c g ⟨by have := h.big; omega, by omega⟩
/- a shelf and its drive, laid since w0 -/
structure Sf (w0 w : World) (M : Nat) (E : Nat → Addr) (g d m : Nat) (node : Int) (fu : Bool) (v : ByteArray → Option Fl) (k : Nat) : Prop where
  env : Env w0 M E
  bel : Below w0.heap.size w0 w
  shl : Shl w g node d
  dv : Dw w d m v k fu
  ne : g ≠ d ∧ g ≠ m
  ge : w0.heap.size ≤ g ∧ w0.heap.size ≤ d ∧ w0.heap.size ≤ m
theorem ChD.cell {w w' : World} {d m b i : Nat} (h : ChD w w' d m) (hb : b < w.heap.size) (h1 : b ≠ d ∧ b ≠ m) : w'.cell? ⟨b, i, none⟩ = w.cell? ⟨b, i, none⟩ := World.cell?_of_block (h.block b hb h1.1 h1.2)
theorem Shl.below {w w' : World} {g d : Nat} {node : Int} (h : Shl w g node d) (hb : Below w.heap.size w w') : Shl w' g node d := ⟨(hb.cell (p := ⟨g, 0, none⟩) (cell_lt h.c0)).trans h.c0, (hb.cell (p := ⟨g, 1, none⟩) (cell_lt h.c1)).trans h.c1⟩
section
variable {w0 w w' : World} {M : Nat} {E : Nat → Addr} {g d m : Nat} {node : Int} {fu fu' : Bool} {v v' : ByteArray → Option Fl} {k k' : Nat}
theorem Sf.here (h : Sf w0 w M E g d m node fu v k) : Env w M E := h.env.below h.bel
theorem Sf.below (h : Sf w0 w M E g d m node fu v k) (hb : Below w.heap.size w w') : Sf w0 w' M E g d m node fu v k := ⟨h.env, h.bel.trans (hb.mono h.bel.size), h.shl.below hb, h.dv.below hb, h.ne, h.ge⟩
theorem Sf.ch (h : Sf w0 w M E g d m node fu v k) (c : ChD w w' d m) (hd : Dw w' d m v' k' fu') : Sf w0 w' M E g d m node fu' v' k' :=
  ⟨h.env, h.bel.trans (c.below h.ge.2.1 h.ge.2.2 h.bel.size), ⟨(c.cell (cell_lt h.shl.c0) h.ne).trans h.shl.c0, (c.cell (cell_lt h.shl.c1) h.ne).trans h.shl.c1⟩, hd, h.ne, h.ge⟩
theorem Sln.ch {a : Option Addr} {n : Nat} {l : List Nat} (h : Sln w a n l) (c : ChD w w' d m) (ha : ∀ q, blkOf a = some q → q ≠ d ∧ q ≠ m) : Sln w' a n l := by
  refine ⟨h.len, h.sli.1, h.sli.2.1, ?_⟩
  rcases h.sli.2.2 with h0 | ⟨b, off, rfl, hl, hr⟩
  · exact .inl h0
  · exact .inr ⟨b, off, rfl, by have := c.size; omega, fun i hi => (c.cell hl (ha b rfl)).trans (hr i hi)⟩
end
theorem upd_upd (v : ByteArray → Option Fl) (s : ByteArray) (x y : Option Fl) : upd (upd v s x) s y = upd v s y := by
  funext t
  unfold upd
  split <;> rfl
/- what store's last line reads -/
structure Oq (W : World) (g d gb : Nat) (a b c : Int) : Prop where
  p : W.cell? ⟨g, 1, none⟩ = some (.pointer (some ⟨d, 0, none⟩))
  x0 : W.cell? ⟨gb, 0, none⟩ = some (.int .i64 a)
  x1 : W.cell? ⟨gb, 1, none⟩ = some (.int .i64 b)
  x2 : W.cell? ⟨gb, 2, none⟩ = some (.int .i64 c)
theorem Oq.below {W W' : World} {g d gb : Nat} {a b c : Int} (h : Oq W g d gb a b c) (hb : Below W.heap.size W W') : Oq W' g d gb a b c :=
  ⟨(hb.cell (p := ⟨g, 1, none⟩) (cell_lt h.p)).trans h.p, (hb.cell (p := ⟨gb, 0, none⟩) (cell_lt h.x0)).trans h.x0, (hb.cell (p := ⟨gb, 1, none⟩) (cell_lt h.x1)).trans h.x1, (hb.cell (p := ⟨gb, 2, none⟩) (cell_lt h.x2)).trans h.x2⟩
theorem Oq.ch {W W' : World} {g d m gb : Nat} {a b c : Int} (h : Oq W g d gb a b c) (k : ChD W W' d m) (hn : (g ≠ d ∧ g ≠ m) ∧ gb ≠ d ∧ gb ≠ m) : Oq W' g d gb a b c :=
  ⟨(k.cell (cell_lt h.p) hn.1).trans h.p, (k.cell (cell_lt h.x0) hn.2).trans h.x0, (k.cell (cell_lt h.x1) hn.2).trans h.x1, (k.cell (cell_lt h.x2) hn.2).trans h.x2⟩
set_option maxHeartbeats 2000000 in
theorem store_v {w0 w : World} {M : Nat} {E : Nat → Addr} {g d m : Nat} {node : Int} {v : ByteArray → Option Fl} {k : Nat} (hF : Hid (Sf w0 w M E g d m node false v k)) (hk : Hid (k < 512)) (a b c : Int) (hi : Hid (gdI a b c)) {p : Option Addr} {n cp : Nat} {l : List Nat} (hS : Hid (Sln w p n l)) (hp : Hid (∀ q, blkOf p = some q → q ≠ d ∧ q ≠ m)) :
    Calls Tryz.prog 54 #[.pointer (some ⟨g, 0, none⟩), idv a b c, .slice p n cp] w fun e w' => e = .returned .nilIface ∧ Hid (Sf w0 w' M E g d m node false (upd (upd v (nmS 116 a b c) none) (nmS 98 a b c) (some ⟨spell l, spell l, true⟩)) (k + 1) ∧ ChD w w' d m) := by
  obtain ⟨st, HT⟩ : ∃ st, Hid (nmS 116 a b c = st) := ⟨_, rfl⟩
  obtain ⟨fi, HI⟩ : ∃ fi, Hid (nmS 98 a b c = fi) := ⟨_, rfl⟩
  have N1 : Hid (nm st = true) := by rw [← HT.out]; exact t_nm hi.out
  have N2 : Hid (nm fi = true) := by rw [← HI.out]; exact b_nm hi.out
  have I6 := gdI_64 hi.out
  rw [HT.out, HI.out]
  obtain ⟨gb, HB⟩ : ∃ gb, Hid (w.heap.size = gb) := ⟨_, rfl⟩
  have NE : Hid ((g ≠ d ∧ g ≠ m) ∧ gb ≠ d ∧ gb ≠ m) := ⟨hF.out.ne, by have := hF.out.dv.lt; have := HB.out; omega⟩
  have T1 : ∀ ob, Hid (Tab (w.alloc ob)) := fun ob => hF.out.here.tab.below (alloc1 w ob)
  go_enter Tryz.func54, Tryz.ntmps54
  go_upto_region 8 with (first
    | (go_at_call 92; refine (stageof_n a b c I6.1 I6.2.1 I6.2.2 (T1 _)).mono ?_; rintro e w1 ⟨rfl, H1⟩
       rw [HT.out]
       have B1 : Hid (Below w.heap.size w w1) := (alloc1 w _).trans (H1.out.mono (by simp))
       have Q1 : Hid (Oq w1 g d gb a b c) := by
         rw [← HB.out]
         refine ⟨(hF.out.shl.below B1.out).c1, ?_, ?_, ?_⟩
         · exact (H1.out.cell (p := ⟨w.heap.size, 0, none⟩) (by simp)).trans (by simp)
         · exact (H1.out.cell (p := ⟨w.heap.size, 1, none⟩) (by simp)).trans (by simp)
         · exact (H1.out.cell (p := ⟨w.heap.size, 2, none⟩) (by simp)).trans (by simp)
       have c1 := Q1.out.p
       have S1 : Hid (Sln w1 p n l) := hS.out.below B1.out
       have D1 : Hid (Dw w1 d m v k false) := hF.out.dv.below B1.out
       clear H1)
    | (go_at_call 42; refine (write_w D1 hk st S1 N1).mono ?_; rintro e w2 ⟨rfl, H2⟩
       have Q2 : Hid (Oq w2 g d gb a b c) := Q1.out.ch H2.out.2 NE.out
       have c2 := Q2.out.p
       have D2 : Hid (Dw w2 d m (upd v st (some ⟨spell l, ((v st).getD f0).s, ((v st).getD f0).h⟩)) (k + 1) false) := H2.out.1)
    | (go_at_call 44; refine (sync_w D2 st ⟨spell l, ((v st).getD f0).s, ((v st).getD f0).h⟩ N1 (upd_same _ _ _)).mono ?_; rintro e w3 ⟨rfl, H3⟩
       have Q3 : Hid (Oq w3 g d gb a b c) := Q2.out.ch H3.out.2 NE.out
       have D3 : Hid (Dw w3 d m (upd v st (some ⟨spell l, spell l, true⟩)) (k + 1) false) := by have h := H3.out.1; rw [upd_upd] at h; exact h
       have C3 : Hid (ChD w w3 d m) := ((ChD.of_below B1.out).trans H2.out.2).trans H3.out.2))
  rw [HB.out]
  clear c1 c2
  obtain ⟨V, HV⟩ : ∃ V, Hid (w3.drew = V) := ⟨_, rfl⟩
  have DB : Below w3.heap.size w3 w3.drew := (Below.refl _ _).drew
  have K0 : Oq w3.drew g d gb a b c := Q3.out.below DB
  have T3 : Hid (Tab V) := by rw [← HV.out]; exact ((hF.out.ch C3.out D3.out).here.below DB).tab
  have DD : Hid (Dw V d m (upd v st (some ⟨spell l, spell l, true⟩)) (k + 1) false) := by rw [← HV.out]; exact D3.out.below DB
  have CV : Hid (ChD w V d m) := by rw [← HV.out]; exact C3.out.trans (ChD.of_below DB)
  refine wp_region_till (S := fun L W => Oq W g d gb a b c) (by kernel_rfl) K0 (fun hS => ?_)
  rw [HV.out]
  rw [HV.out] at hS
  clear K0 DB
  refine till_take (i := 0) (v := .pointer (some ⟨g, 0, none⟩)) rfl (by kernel_rfl) (by kernel_rfl) (by kernel_rfl) (fun _ _ _ h => h) (fun L w => Iff.rfl) (Or.inl ⟨by rfl, fun w => by go_simp⟩) hS (fun hSb => ?_)
  simp only [List.getElem_toArray, List.getElem_cons_zero, List.getElem_cons_succ, Act.put, List.setIfInBounds_toArray, List.set_cons_zero, List.set_cons_succ]
  clear hS
  refine till_take (i := 1) (v := .pointer (some ⟨g, 0, none⟩)) rfl (by kernel_rfl) (by kernel_rfl) (by kernel_rfl) (fun _ _ _ h => h) (fun L w => Iff.rfl) (Or.inl ⟨by rfl, fun w => by go_simp⟩) hSb (fun hS => ?_)
  simp only [List.getElem_toArray, List.getElem_cons_zero, List.getElem_cons_succ, Act.put, List.setIfInBounds_toArray, List.set_cons_zero, List.set_cons_succ]
  clear hSb
  refine till_take (i := 2) (v := .pointer (some ⟨g, 1, none⟩)) rfl (by kernel_rfl) (by kernel_rfl) (by kernel_rfl) (fun _ _ _ h => h) (fun L w => Iff.rfl) (Or.inl ⟨by rfl, fun w => by go_simp⟩) hS (fun hSb => ?_)
  simp only [List.getElem_toArray, List.getElem_cons_zero, List.getElem_cons_succ, Act.put, List.setIfInBounds_toArray, List.set_cons_zero, List.set_cons_succ]
  clear hS
  refine till_read (i := 3) (c := 7) (v := .pointer (some ⟨d, 0, none⟩)) (T := fun W => Oq W g d gb a b c) rfl rfl (by kernel_rfl) (by kernel_rfl) (by kernel_rfl) (by kernel_rfl) (by kernel_rfl) (fun _ _ _ h => h) (fun L w => Iff.rfl) (fun L w h1 h2 => h2) (Or.inl ⟨by rfl, fun w h => by have q := h.p; go_simp⟩) hSb (fun hS => ?_)
  simp only [List.getElem_toArray, List.getElem_cons_zero, List.getElem_cons_succ, Act.put, List.setIfInBounds_toArray, List.set_cons_zero, List.set_cons_succ]
  clear hSb
  refine till_take (i := 4) (v := .string st) rfl (by kernel_rfl) (by kernel_rfl) (by kernel_rfl) (fun _ _ _ h => h) (fun L w => Iff.rfl) (Or.inl ⟨by rfl, fun w => by go_simp⟩) hS (fun hSb => ?_)
  simp only [List.getElem_toArray, List.getElem_cons_zero, List.getElem_cons_succ, Act.put, List.setIfInBounds_toArray, List.set_cons_zero, List.set_cons_succ]
  clear hS
  refine till_read (i := 5) (c := 6) (v := .agg #[.int .i64 a, .int .i64 b, .int .i64 c]) (T := fun W => Oq W g d gb a b c) rfl rfl (by kernel_rfl) (by kernel_rfl) (by kernel_rfl) (by kernel_rfl) (by kernel_rfl) (fun _ _ _ h => h) (fun L w => Iff.rfl) (fun L w h1 h2 => h2) (Or.inl ⟨by rfl, fun w h => by have q0 := h.x0; have q1 := h.x1; have q2 := h.x2; go_simp⟩) hSb (fun hS => ?_)
  simp only [List.getElem_toArray, List.getElem_cons_zero, List.getElem_cons_succ, Act.put, List.setIfInBounds_toArray, List.set_cons_zero, List.set_cons_succ]
  clear hSb
  refine till_one (i := 6) (by kernel_rfl) rfl (fun K hK => ?_)
  simp only [List.getElem_toArray, List.getElem_cons_zero, List.getElem_cons_succ]
  rw [if_pos (by rfl)]
  go_simp
  go_wp2_with (go_at_call 59; refine (fileof_n a b c I6.1 I6.2.1 I6.2.2 T3).mono ?_; rintro e w4 ⟨rfl, H4⟩)
  rw [HI.out]
  refine hK.out _ _ (hS.below H4.out) (fun hSb => ?_)
  clear hK K
  try simp only [List.getElem_toArray, List.getElem_cons_zero, List.getElem_cons_succ, Act.put, List.setIfInBounds_toArray, List.set_cons_zero, List.set_cons_succ]
  clear hS
  have D4 : Hid (Dw w4 d m (upd v st (some ⟨spell l, spell l, true⟩)) (k + 1) false) := DD.out.below H4.out
  refine till_one (i := 7) (by kernel_rfl) rfl (fun K hK => ?_)
  simp only [List.getElem_toArray, List.getElem_cons_zero, List.getElem_cons_succ]
  rw [if_pos (by rfl)]
  go_simp
  go_wp2_with (go_at_call 93; refine (rename_w D4 st fi ⟨spell l, spell l, true⟩ N1 N2 (upd_same _ _ _)).mono ?_; rintro e w5 ⟨rfl, H5⟩)
  refine hK.out _ _ (hSb.ch H5.out.2 NE.out) (fun hS => ?_)
  clear hK K
  try simp only [List.getElem_toArray, List.getElem_cons_zero, List.getElem_cons_succ, Act.put, List.setIfInBounds_toArray, List.set_cons_zero, List.set_cons_succ]
  clear hSb
  refine till_one (i := 8) (by kernel_rfl) rfl (fun K hK => ?_)
  simp only [List.getElem_toArray, List.getElem_cons_zero, List.getElem_cons_succ]
  rw [if_pos (by rfl)]
  go_simp
  refine hK.out _ _ (hS) (fun hSb => ?_)
  clear hK K
  try simp only [List.getElem_toArray, List.getElem_cons_zero, List.getElem_cons_succ, Act.put, List.setIfInBounds_toArray, List.set_cons_zero, List.set_cons_succ]
  clear hS
  refine till_done (by kernel_rfl) ?_ _
  clear hSb
  go_wp2
  go_ret
  have C5 := (CV.out.trans (ChD.of_below H4.out)).trans H5.out.2
  have D5 := H5.out.1
  rw [upd_upd] at D5
  exact ⟨rfl, hF.out.ch C5 D5, C5⟩
end Go.Proofs.YtkdgakcmhnadfaaGreatDoor
