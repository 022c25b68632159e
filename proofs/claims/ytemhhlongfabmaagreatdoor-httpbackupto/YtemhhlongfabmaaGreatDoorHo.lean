/- Write, for all responses whose bytes have room. -/
import Derived.Test.YtemhhlongfabmaaGreatDoorHn
import Derived.Test.YtemhhlongfabmaaGreatDoorCt
namespace Go.Proofs.YtemhhlongfabmaaGreatDoor
open Go.ChangeShapes Go.WideShapes Go.ChangeAt Go.RowKit
set_option maxRecDepth 20000
set_option linter.unusedVariables false
set_option linter.unusedSimpArgs false
structure Wb (w W : World) (g1 : Nat) (st : Int) (fa : Option Addr) (fn fc : Nat) (ba : Option Addr) (bn bc : Nat) : Prop where
  b : Bx w W g1 46 #[.int .i64 st, .slice fa fn fc, .slice ba bn bc]
section
variable {w W W' : World} {g1 : Nat} {st : Int} {fa : Option Addr} {fn fc : Nat} {ba : Option Addr} {bn bc : Nat}
theorem Wb.below (h : Wb w W g1 st fa fn fc ba bn bc) (hb : Below W.heap.size W W') : Wb w W' g1 st fa fn fc ba bn bc := ⟨h.b.below hb⟩
theorem Wb.c (h : Wb w W g1 st fa fn fc ba bn bc) : W.cell? ⟨g1, 0, none⟩ = some (.int .i64 st) ∧ W.cell? ⟨g1, 1, none⟩ = some (.slice fa fn fc) ∧ W.cell? ⟨g1, 2, none⟩ = some (.slice ba bn bc) := by
  refine ⟨?_, ?_, ?_⟩ <;> simp [World.cell?, h.b.row]
end
structure Ws (w W : World) (g1 : Nat) (st : Int) (fa : Option Addr) (fn fc : Nat) (ba : Option Addr) (bn bc : Nat) (ga k : Nat) (cur : Array Value) (R : List Fl) (body : List Nat) (a : Option Addr) (n c : Nat) (L : List Nat) : Prop where
  b : Wb w W g1 st fa fn fc ba bn bc
  r : Fb w W ga k cur R
  o : Om W w.heap.size a n c L
  s : Sln w ba bn body
section
variable {w W W' : World} {g1 : Nat} {st : Int} {fa : Option Addr} {fn fc : Nat} {ba : Option Addr} {bn bc ga k : Nat} {cur : Array Value} {R : List Fl} {body : List Nat} {a : Option Addr} {n c : Nat} {L : List Nat}
theorem Fb.below (h : Fb w W ga k cur R) (hb : Below W.heap.size W W') : Fb w W' ga k cur R := ⟨h.box.below hb, h.len, h.at_⟩
theorem Ws.below (h : Ws w W g1 st fa fn fc ba bn bc ga k cur R body a n c L) (hb : Below W.heap.size W W') : Ws w W' g1 st fa fn fc ba bn bc ga k cur R body a n c L := ⟨h.b.below hb, h.r.below hb, h.o.below hb, h.s⟩
theorem Ws.ne (h : Ws w W g1 st fa fn fc ba bn bc ga k cur R body a n c L) : some g1 ≠ blkOf a ∧ some ga ≠ blkOf a := by
  obtain ⟨g, cu, fr, rfl, h1, h2, _⟩ := h.o.row
  refine ⟨fun e => ?_, fun e => ?_⟩
  · cases e
    rw [h.b.b.row] at h2; cases h2
  · cases e
    rw [h.r.box.row] at h2; cases h2
theorem Ws.grown {a' : Option Addr} {n' c' : Nat} {L' : List Nat} (h : Ws w W g1 st fa fn fc ba bn bc ga k cur R body a n c L) (hg : W.grownBy W' (blkOf a)) (ho : Om W' w.heap.size a' n' c' L') : Ws w W' g1 st fa fn fc ba bn bc ga k cur R body a' n' c' L' := by
  have hr : ∀ q, blkOf a = some q → w.heap.size ≤ q := fun q e => (h.o.lt_ q e).1
  exact ⟨⟨h.b.b.grown hg hr h.ne.1⟩, ⟨h.r.box.grown hg hr h.ne.2, h.r.len, h.r.at_⟩, ho, h.s⟩
theorem Ws.str (h : Ws w W g1 st fa fn fc ba bn bc ga k cur R body a n c L) (s : ByteArray) (hb : n + s.size ≤ 140737488354304) :
    ∃ a' c' W', (Builtin.append_ #[22, 9] 22 #[.slice a n c, .string s]).run Tryz.prog W = .ok (.slice a' (n + s.size) c') W' ∧ Ws w W' g1 st fa fn fc ba bn bc ga k cur R body a' (n + s.size) c' (L ++ bo s) := by
  obtain ⟨a', c', W', h1, h2, h3, _⟩ := om_str (l := bo s) (m := s.size) h.o (bo_lt s) (bo_len s).symm hb h.b.b.bel.size
  rw [spell_bo] at h1
  exact ⟨a', c', W', h1, h.grown h3 h2⟩
end
theorem addS (a b : ByteArray) (h : a.size + b.size ≤ 9223372036854775807) (W : World) : (Op.stringOp .add a b).run Tryz.prog W = .ok (.string (a ++ b)) W := run_string_add_sum W a b h
theorem info46 : (Tryz.prog.info? 46).map (·.size) = some 3 := by kernel_rfl
set_option maxHeartbeats 4000000 in
theorem write_n {st : Int} {fa : Option Addr} {fn fc : Nat} {fs : List Fl} {ba : Option Addr} {bn bc : Nat} {body : List Nat} {w : World} (hF : Hid (Fw w fa fn fs)) (hfz : fn ≤ 4398046510976) (hfc : fn ≤ fc) (hS : Hid (Sln w ba bn body)) (hbc : Hid (ba = none → bc = 0)) (ht : Hid (Tab w)) (h0 : -9223372036854775808 ≤ st) (h1 : st ≤ 9223372036854775807) (hZ : Hid ((wrt st fs body).length ≤ 140737488354304)) :
    Calls Tryz.prog 21 #[.agg #[.int .i64 st, .slice fa fn fc, .slice ba bn bc]] w fun e w' => ∃ a n c, e = .returned (.slice a n c) ∧ Hid (Om w' w.heap.size a n c (wrt st fs body) ∧ Below w.heap.size w w') := by
  have BL : Hid (bn = body.length) := hS.out.len
  have bnz : bn ≤ 140737488354304 := by rw [BL.out]; exact hS.out.sli.2.1
  obtain ⟨ho, HO⟩ : ∃ s, Hid (itS (bn : Int) = s) := ⟨_, rfl⟩
  have zo : ho.size ≤ 20 := by rw [← HO.out]; exact itS_size _ (by omega) (by omega)
  obtain ⟨ha, HA⟩ : ∃ s, Hid (itS st = s) := ⟨_, rfl⟩
  have za : ha.size ≤ 20 := by rw [← HA.out]; exact itS_size _ h0 h1
  obtain ⟨hr, HR⟩ : ∃ s, Hid (rsn st = s) := ⟨_, rfl⟩
  have zr : hr.size ≤ 40 := by rw [← HR.out]; exact rsn_size st
  have HD : Hid (hdS st = ((({ data := #[72, 84, 84, 80, 47, 49, 46, 49, 32] } ++ ha) ++ { data := #[32] }) ++ hr) ++ { data := #[13, 10] }) := (by unfold hdS; rw [HA.out, HR.out]; rfl : hdS st = _)
  obtain ⟨g1, G1⟩ : ∃ g, Hid (w.heap.size = g) := ⟨_, rfl⟩
  obtain ⟨w0, H0⟩ : ∃ w0, Hid (w.alloc (.cells #[.int .i64 st, .slice fa fn fc, .slice ba bn bc] 46) = w0) := ⟨_, rfl⟩
  have B0 : Hid (Wb w w0 g1 st fa fn fc ba bn bc) := by rw [← H0.out, ← G1.out]; exact ⟨Bx.new w w 46 _ (Below.refl _ _)⟩
  obtain ⟨c00, c01, c02⟩ := B0.out.c
  have T0 : Hid (Tab w0) := ht.out.below B0.out.b.bel
  go_enter Tryz.func21, Tryz.ntmps21
  go_upto_region 1 with (fail)
  rw [H0.out, G1.out]
  go_upto_region 2 with (go_at_call 35; refine (itoa_n (bn : Int) (by omega) (by omega) T0).mono ?_; rintro e w1 ⟨rfl, D1⟩; rw [HO.out])
  obtain ⟨g3, G3⟩ : ∃ g, Hid (w1.heap.size = g) := ⟨_, rfl⟩
  obtain ⟨w2, H2⟩ : ∃ w2, Hid (w1.alloc (.cells #[.string { data := #[99, 111, 110, 116, 101, 110, 116, 45, 108, 101, 110, 103, 116, 104] }, .string ho] 41) = w2) := ⟨_, rfl⟩
  rw [H2.out, G3.out]
  have B1 : Hid (Wb w w1 g1 st fa fn fc ba bn bc) := B0.out.below D1.out
  have B2 : Hid (Wb w w2 g1 st fa fn fc ba bn bc) := by rw [← H2.out]; exact B1.out.below (alloc1 _ _)
  have O2 : Hid (Bx w w2 g3 41 #[.string { data := #[99, 111, 110, 116, 101, 110, 116, 45, 108, 101, 110, 103, 116, 104] }, .string ho]) := by rw [← H2.out, ← G3.out]; exact Bx.new w w1 41 _ B1.out.b.bel
  clear c00 c01 c02
  obtain ⟨wd, HWd⟩ : ∃ wd, Hid (w2.drew = wd) := ⟨_, rfl⟩
  have DD : Hid (Below w2.heap.size w2 wd) := by rw [← HWd.out]; exact (Below.refl _ _).drew
  have Bd : Hid (Wb w wd g1 st fa fn fc ba bn bc) := B2.out.below DD.out
  have Od : Hid (Bx w wd g3 41 #[.string { data := #[99, 111, 110, 116, 101, 110, 116, 45, 108, 101, 110, 103, 116, 104] }, .string ho]) := O2.out.below DD.out
  have Td : Hid (Tab wd) := ht.out.below Bd.out.b.bel
  have s9 : ({ data := #[72, 84, 84, 80, 47, 49, 46, 49, 32] } : ByteArray).size = 9 := rfl
  have s1 : ({ data := #[32] } : ByteArray).size = 1 := rfl
  have s2 : ({ data := #[13, 10] } : ByteArray).size = 2 := rfl
  have A3 := addS { data := #[72, 84, 84, 80, 47, 49, 46, 49, 32] } ha (by rw [s9]; omega)
  have A4 := addS ({ data := #[72, 84, 84, 80, 47, 49, 46, 49, 32] } ++ ha) { data := #[32] } (by rw [ba_size_app, s9, s1]; omega)
  have A8 := addS (({ data := #[72, 84, 84, 80, 47, 49, 46, 49, 32] } ++ ha) ++ { data := #[32] }) hr (by rw [ba_size_app, ba_size_app, s9, s1]; omega)
  have A9 := addS ((({ data := #[72, 84, 84, 80, 47, 49, 46, 49, 32] } ++ ha) ++ { data := #[32] }) ++ hr) { data := #[13, 10] } (by rw [ba_size_app, ba_size_app, ba_size_app, s9, s1, s2]; omega)
  rw [← HD.out] at A9
  refine wp_region_seq (C := fun W => W.cell? ⟨g1, 0, none⟩ = some (.int .i64 st)) [(0, false), (1, false), (5, false), (6, false), (2, true), (3, false), (4, false), (7, true), (8, false), (9, false), (10, true), (11, false)] (by kernel_rfl) (by kernel_rfl) (by rw [HWd.out]; exact Bd.out.c.1) ?_
  refine seq_take (o := { dst := some 12, op := Go.Op.fieldAddr 46 (Go.Operand.tmp 1) 0, type := 0, pos := "write.go:44", after := #[], guard := none }) (v := .pointer (some ⟨g1, 0, none⟩)) (by kernel_rfl) (fun _ _ _ h => h) (Or.inl ⟨by kernel_rfl, fun W hW => by go_simp⟩) ?_
  simp only [List.getElem_toArray, List.getElem_cons_zero, List.getElem_cons_succ, Act.put, List.setIfInBounds_toArray, List.set_cons_zero, List.set_cons_succ]
  refine seq_take (o := { dst := some 13, op := Go.Op.load 3 (Go.Operand.tmp 12), type := 3, pos := "write.go:44", after := #[{ on := 0, ground := Go.Ground.data }], guard := none }) (v := .int .i64 st) (by kernel_rfl) (fun _ _ _ h => h) (Or.inl ⟨by kernel_rfl, fun W hW => by go_simp⟩) ?_
  simp only [List.getElem_toArray, List.getElem_cons_zero, List.getElem_cons_succ, Act.put, List.setIfInBounds_toArray, List.set_cons_zero, List.set_cons_succ]
  refine seq_take (o := { dst := some 17, op := Go.Op.fieldAddr 46 (Go.Operand.tmp 1) 0, type := 0, pos := "write.go:44", after := #[], guard := none }) (v := .pointer (some ⟨g1, 0, none⟩)) (by kernel_rfl) (fun _ _ _ h => h) (Or.inl ⟨by kernel_rfl, fun W hW => by go_simp⟩) ?_
  simp only [List.getElem_toArray, List.getElem_cons_zero, List.getElem_cons_succ, Act.put, List.setIfInBounds_toArray, List.set_cons_zero, List.set_cons_succ]
  refine seq_take (o := { dst := some 18, op := Go.Op.load 3 (Go.Operand.tmp 17), type := 3, pos := "write.go:44", after := #[{ on := 5, ground := Go.Ground.data }], guard := none }) (v := .int .i64 st) (by kernel_rfl) (fun _ _ _ h => h) (Or.inl ⟨by kernel_rfl, fun W hW => by go_simp⟩) ?_
  simp only [List.getElem_toArray, List.getElem_cons_zero, List.getElem_cons_succ, Act.put, List.setIfInBounds_toArray, List.set_cons_zero, List.set_cons_succ]
  refine seq_call (o := { dst := some 14, op := Go.Op.call { callee := Go.Callee.value (Go.Operand.func 35), args := #[Go.Operand.tmp 13], argTypes := #[3] }, type := 9, pos := "write.go:44", after := #[{ on := 1, ground := Go.Ground.data }], guard := none }) (by kernel_rfl) (fun KK hK => ?_)
  rw [if_pos (by kernel_rfl)]
  rw [HWd.out]
  go_wp2_with (go_at_call 35; refine (itoa_n st h0 h1 Td).mono ?_; rintro e w3 ⟨rfl, D3⟩; rw [HA.out])
  have B3 : Hid (Wb w w3 g1 st fa fn fc ba bn bc) := Bd.out.below D3.out
  have O3 : Hid (Bx w w3 g3 41 #[.string { data := #[99, 111, 110, 116, 101, 110, 116, 45, 108, 101, 110, 103, 116, 104] }, .string ho]) := Od.out.below D3.out
  refine hK.out _ _ (B3.out.c.1) ?_
  clear hK KK
  try simp only [List.getElem_toArray, List.getElem_cons_zero, List.getElem_cons_succ, Act.put, List.setIfInBounds_toArray, List.set_cons_zero, List.set_cons_succ]
  refine seq_take (o := { dst := some 15, op := Go.Op.binOp Go.BinOp.add 9 (Go.Operand.const (Go.Value.string { data := #[72, 84, 84, 80, 47, 49, 46, 49, 32] })) (Go.Operand.tmp 14) 9, type := 9, pos := "write.go:44", after := #[{ on := 2, ground := Go.Ground.data }], guard := none }) (v := .string ({ data := #[72, 84, 84, 80, 47, 49, 46, 49, 32] } ++ ha)) (by kernel_rfl) (fun _ _ _ h => h) (Or.inl ⟨by kernel_rfl, fun W hW => by go_simp⟩) ?_
  simp only [List.getElem_toArray, List.getElem_cons_zero, List.getElem_cons_succ, Act.put, List.setIfInBounds_toArray, List.set_cons_zero, List.set_cons_succ]
  refine seq_take (o := { dst := some 16, op := Go.Op.binOp Go.BinOp.add 9 (Go.Operand.tmp 15) (Go.Operand.const (Go.Value.string { data := #[32] })) 9, type := 9, pos := "write.go:44", after := #[{ on := 3, ground := Go.Ground.data }], guard := none }) (v := .string (({ data := #[72, 84, 84, 80, 47, 49, 46, 49, 32] } ++ ha) ++ { data := #[32] })) (by kernel_rfl) (fun _ _ _ h => h) (Or.inl ⟨by kernel_rfl, fun W hW => by go_simp⟩) ?_
  simp only [List.getElem_toArray, List.getElem_cons_zero, List.getElem_cons_succ, Act.put, List.setIfInBounds_toArray, List.set_cons_zero, List.set_cons_succ]
  refine seq_call (o := { dst := some 19, op := Go.Op.call { callee := Go.Callee.value (Go.Operand.func 19), args := #[Go.Operand.tmp 18], argTypes := #[3] }, type := 9, pos := "write.go:44", after := #[{ on := 6, ground := Go.Ground.data }, { on := 2, ground := Go.Ground.chain }], guard := none }) (by kernel_rfl) (fun KK hK => ?_)
  rw [if_pos (by kernel_rfl)]
  go_wp2_with (go_at_call 19; refine (reason_n st _).mono ?_; rintro e w4 ⟨rfl, h4⟩; rw [h4, HR.out]; clear h4)
  refine hK.out _ _ (B3.out.c.1) ?_
  clear hK KK
  try simp only [List.getElem_toArray, List.getElem_cons_zero, List.getElem_cons_succ, Act.put, List.setIfInBounds_toArray, List.set_cons_zero, List.set_cons_succ]
  refine seq_take (o := { dst := some 20, op := Go.Op.binOp Go.BinOp.add 9 (Go.Operand.tmp 16) (Go.Operand.tmp 19) 9, type := 9, pos := "write.go:44", after := #[{ on := 4, ground := Go.Ground.data }, { on := 7, ground := Go.Ground.data }], guard := none }) (v := .string ((({ data := #[72, 84, 84, 80, 47, 49, 46, 49, 32] } ++ ha) ++ { data := #[32] }) ++ hr)) (by kernel_rfl) (fun _ _ _ h => h) (Or.inl ⟨by kernel_rfl, fun W hW => by go_simp⟩) ?_
  simp only [List.getElem_toArray, List.getElem_cons_zero, List.getElem_cons_succ, Act.put, List.setIfInBounds_toArray, List.set_cons_zero, List.set_cons_succ]
  refine seq_take (o := { dst := some 21, op := Go.Op.binOp Go.BinOp.add 9 (Go.Operand.tmp 20) (Go.Operand.const (Go.Value.string { data := #[13, 10] })) 9, type := 9, pos := "write.go:44", after := #[{ on := 8, ground := Go.Ground.data }], guard := none }) (v := .string (hdS st)) (by kernel_rfl) (fun _ _ _ h => h) (Or.inl ⟨by kernel_rfl, fun W hW => by go_simp⟩) ?_
  simp only [List.getElem_toArray, List.getElem_cons_zero, List.getElem_cons_succ, Act.put, List.setIfInBounds_toArray, List.set_cons_zero, List.set_cons_succ]
  refine seq_call (o := { dst := some 22, op := Go.Op.convert 9 22 (Go.Operand.tmp 21), type := 22, pos := "write.go:44", after := #[{ on := 9, ground := Go.Ground.data }], guard := none }) (by kernel_rfl) (fun KK hK => ?_)
  rw [if_pos (by kernel_rfl)]
  have CV := run_cv w3 (hdS st)
  go_simp
  clear CV
  refine hK.out _ _ ((B3.out.below (cvW_below w3 (hdS st))).c.1) ?_
  clear hK KK
  try simp only [List.getElem_toArray, List.getElem_cons_zero, List.getElem_cons_succ, Act.put, List.setIfInBounds_toArray, List.set_cons_zero, List.set_cons_succ]
  refine seq_take (o := { dst := some 4, op := Go.Op.assign (Go.Operand.tmp 22), type := 22, pos := "write.go:44", after := #[{ on := 10, ground := Go.Ground.data }, { on := 7, ground := Go.Ground.chain }, { on := 0, ground := Go.Ground.phase }, { on := 1, ground := Go.Ground.phase }, { on := 2, ground := Go.Ground.phase }, { on := 3, ground := Go.Ground.phase }, { on := 4, ground := Go.Ground.phase }, { on := 5, ground := Go.Ground.phase }, { on := 6, ground := Go.Ground.phase }, { on := 7, ground := Go.Ground.phase }, { on := 8, ground := Go.Ground.phase }, { on := 9, ground := Go.Ground.phase }, { on := 10, ground := Go.Ground.phase }], guard := none }) (v := .slice (some ⟨w3.heap.size, 0, none⟩) (hdS st).size (cvC w3 (hdS st))) (by kernel_rfl) (fun _ _ _ h => h) (Or.inl ⟨by kernel_rfl, fun W hW => by go_simp⟩) ?_
  simp only [List.getElem_toArray, List.getElem_cons_zero, List.getElem_cons_succ, Act.put, List.setIfInBounds_toArray, List.set_cons_zero, List.set_cons_succ]
  show (Exit.then _ _) .normal _ _

  go_upto_region 3 with (fail)
  obtain ⟨w5, H5⟩ : ∃ w5, Hid (cvW w3 (hdS st) = w5) := ⟨_, rfl⟩
  have C5 : Hid (Below w3.heap.size w3 w5) := by rw [← H5.out]; exact cvW_below _ _
  have B5 : Hid (Wb w w5 g1 st fa fn fc ba bn bc) := B3.out.below C5.out
  have O5 : Hid (Bx w w5 g3 41 #[.string { data := #[99, 111, 110, 116, 101, 110, 116, 45, 108, 101, 110, 103, 116, 104] }, .string ho]) := O3.out.below C5.out
  have zh : (hdS st).size ≤ 72 := by rw [hdS_size, HA.out, HR.out]; omega
  obtain ⟨n5, N5⟩ : ∃ n, Hid ((hdS st).size = n) := ⟨_, rfl⟩
  obtain ⟨p5, P5⟩ : ∃ n, Hid (w3.heap.size = n) := ⟨_, rfl⟩
  obtain ⟨c5, Q5⟩ : ∃ n, Hid (cvC w3 (hdS st) = n) := ⟨_, rfl⟩
  have M5 : Hid (Om w5 w.heap.size (some ⟨p5, 0, none⟩) n5 c5 (bo (hdS st))) := by
    have h := cvW_om w3 (bo (hdS st)) (bo_lt _) w.heap.size B3.out.b.bel.size (by rw [bo_len]; simp only [maxLen]; omega)
    rw [spell_bo, H5.out, bo_len, N5.out, P5.out, Q5.out] at h
    exact h
  rw [H5.out, N5.out, P5.out, Q5.out]
  clear A3 A4 A8 A9 s9 s1
  obtain ⟨we, HWe⟩ : ∃ we, Hid (w5.drew = we) := ⟨_, rfl⟩
  have De : Hid (Below w5.heap.size w5 we) := by rw [← HWe.out]; exact (Below.refl _ _).drew
  have Be : Hid (Wb w we g1 st fa fn fc ba bn bc) := B5.out.below De.out
  have Oe : Hid (Bx w we g3 41 #[.string { data := #[99, 111, 110, 116, 101, 110, 116, 45, 108, 101, 110, 103, 116, 104] }, .string ho]) := O5.out.below De.out
  have Me : Hid (Om we w.heap.size (some ⟨p5, 0, none⟩) n5 c5 (bo (hdS st))) := M5.out.below De.out
  have SLC : ∀ W, (Instr.sliceAt 25 (.slice fa fn fc) none (some (.int .i64 (fn : Nat))) (some (.int .i64 (fn : Nat)))).run Tryz.prog W = .ok (.slice fa fn fn) W := fun W => cut_run hfc W
  obtain ⟨pe, PE⟩ : ∃ n, Hid (we.heap.size = n) := ⟨_, rfl⟩
  obtain ⟨w6, H6⟩ : ∃ w6, Hid (we.alloc (.cells #[.string { data := #[99, 111, 110, 116, 101, 110, 116, 45, 108, 101, 110, 103, 116, 104] }, .string ho] 41) = w6) := ⟨_, rfl⟩
  have D6 : Hid (Below we.heap.size we w6) := by rw [← H6.out]; exact alloc1 _ _
  have B6 : Hid (Wb w w6 g1 st fa fn fc ba bn bc) := Be.out.below D6.out
  have O6 : Hid (Bx w w6 g3 41 #[.string { data := #[99, 111, 110, 116, 101, 110, 116, 45, 108, 101, 110, 103, 116, 104] }, .string ho]) := Oe.out.below D6.out
  have M6 : Hid (Om w6 w.heap.size (some ⟨p5, 0, none⟩) n5 c5 (bo (hdS st))) := Me.out.below D6.out
  have J6 : Hid (w6.heap[pe]? = some (.cells #[.string { data := #[99, 111, 110, 116, 101, 110, 116, 45, 108, 101, 110, 103, 116, 104] }, .string ho] 41 (0, 0))) := by rw [← H6.out, ← PE.out]; exact heap_alloc_new _ _
  obtain ⟨ga, GA⟩ : ∃ n, Hid (w6.heap.size = n) := ⟨_, rfl⟩
  obtain ⟨c7, w7, cur, run7, fb7, d7⟩ := one_more (w := w) (f := own bn) (hF.out.below B6.out.b.bel) hfz (by have h := J6.out; rw [h, ← HO.out]; rfl) B6.out.b.bel
  rw [GA.out] at run7 fb7
  have RUN7 : Hid ((Builtin.append_ #[25, 25] 25 #[.slice fa fn fn, .slice (some ⟨pe, 0, none⟩) 1 1]).run Tryz.prog w6 = .ok (.slice (some ⟨ga, 0, none⟩) (fn + 1) c7) w7) := run7
  have F7 : Hid (Fb w w7 ga (fn + 1) cur (fs ++ [own bn])) := fb7
  have B7 : Hid (Wb w w7 g1 st fa fn fc ba bn bc) := B6.out.below d7
  have O7 : Hid (Bx w w7 g3 41 #[.string { data := #[99, 111, 110, 116, 101, 110, 116, 45, 108, 101, 110, 103, 116, 104] }, .string ho]) := O6.out.below d7
  have M7 : Hid (Om w7 w.heap.size (some ⟨p5, 0, none⟩) n5 c5 (bo (hdS st))) := M6.out.below d7
  have cO : ∀ {W : World}, Bx w W g3 41 #[.string { data := #[99, 111, 110, 116, 101, 110, 116, 45, 108, 101, 110, 103, 116, 104] }, .string ho] → W.cell? ⟨g3, 0, none⟩ = some (.string { data := #[99, 111, 110, 116, 101, 110, 116, 45, 108, 101, 110, 103, 116, 104] }) ∧ W.cell? ⟨g3, 1, none⟩ = some (.string ho) := fun h => ⟨by simp [World.cell?, h.row], by simp [World.cell?, h.row]⟩
  clear run7 fb7 d7
  refine wp_region_seq (C := fun W => W.cell? ⟨g1, 1, none⟩ = some (.slice fa fn fc) ∧ W.cell? ⟨g3, 0, none⟩ = some (.string { data := #[99, 111, 110, 116, 101, 110, 116, 45, 108, 101, 110, 103, 116, 104] }) ∧ W.cell? ⟨g3, 1, none⟩ = some (.string ho)) [(0, false), (1, false), (2, false), (3, false), (4, false), (5, false), (6, false), (7, false), (8, false), (9, false), (13, false), (10, true), (11, true), (12, false)] (by kernel_rfl) (by kernel_rfl) (by rw [HWe.out]; exact ⟨Be.out.c.2.1, cO Oe.out⟩) ?_
  refine seq_take (o := { dst := some 23, op := Go.Op.fieldAddr 46 (Go.Operand.tmp 1) 1, type := 0, pos := "write.go:46", after := #[], guard := none }) (v := .pointer (some ⟨g1, 1, none⟩)) (by kernel_rfl) (fun _ _ _ h => h) (Or.inl ⟨by kernel_rfl, fun W hW => by go_simp⟩) ?_
  simp only [List.getElem_toArray, List.getElem_cons_zero, List.getElem_cons_succ, Act.put, List.setIfInBounds_toArray, List.set_cons_zero, List.set_cons_succ]
  refine seq_take (o := { dst := some 24, op := Go.Op.load 25 (Go.Operand.tmp 23), type := 25, pos := "write.go:46", after := #[{ on := 0, ground := Go.Ground.data }], guard := none }) (v := .slice fa fn fc) (by kernel_rfl) (fun _ _ _ h => h) (Or.inl ⟨by kernel_rfl, fun W hW => by obtain ⟨q0, q1, q2⟩ := hW; go_simp⟩) ?_
  simp only [List.getElem_toArray, List.getElem_cons_zero, List.getElem_cons_succ, Act.put, List.setIfInBounds_toArray, List.set_cons_zero, List.set_cons_succ]
  refine seq_take (o := { dst := some 25, op := Go.Op.fieldAddr 46 (Go.Operand.tmp 1) 1, type := 0, pos := "write.go:46", after := #[], guard := none }) (v := .pointer (some ⟨g1, 1, none⟩)) (by kernel_rfl) (fun _ _ _ h => h) (Or.inl ⟨by kernel_rfl, fun W hW => by go_simp⟩) ?_
  simp only [List.getElem_toArray, List.getElem_cons_zero, List.getElem_cons_succ, Act.put, List.setIfInBounds_toArray, List.set_cons_zero, List.set_cons_succ]
  refine seq_take (o := { dst := some 26, op := Go.Op.load 25 (Go.Operand.tmp 25), type := 25, pos := "write.go:46", after := #[{ on := 2, ground := Go.Ground.data }], guard := none }) (v := .slice fa fn fc) (by kernel_rfl) (fun _ _ _ h => h) (Or.inl ⟨by kernel_rfl, fun W hW => by obtain ⟨q0, q1, q2⟩ := hW; go_simp⟩) ?_
  simp only [List.getElem_toArray, List.getElem_cons_zero, List.getElem_cons_succ, Act.put, List.setIfInBounds_toArray, List.set_cons_zero, List.set_cons_succ]
  refine seq_take (o := { dst := some 27, op := Go.Op.call { callee := Go.Callee.builtin Go.Builtin.len, args := #[Go.Operand.tmp 26], argTypes := #[25] }, type := 3, pos := "write.go:46", after := #[{ on := 3, ground := Go.Ground.data }], guard := none }) (v := .int .i64 (fn : Int)) (by kernel_rfl) (fun _ _ _ h => h) (Or.inl ⟨by kernel_rfl, fun W hW => by go_simp⟩) ?_
  simp only [List.getElem_toArray, List.getElem_cons_zero, List.getElem_cons_succ, Act.put, List.setIfInBounds_toArray, List.set_cons_zero, List.set_cons_succ]
  refine seq_take (o := { dst := some 28, op := Go.Op.fieldAddr 46 (Go.Operand.tmp 1) 1, type := 0, pos := "write.go:46", after := #[], guard := none }) (v := .pointer (some ⟨g1, 1, none⟩)) (by kernel_rfl) (fun _ _ _ h => h) (Or.inl ⟨by kernel_rfl, fun W hW => by go_simp⟩) ?_
  simp only [List.getElem_toArray, List.getElem_cons_zero, List.getElem_cons_succ, Act.put, List.setIfInBounds_toArray, List.set_cons_zero, List.set_cons_succ]
  refine seq_take (o := { dst := some 29, op := Go.Op.load 25 (Go.Operand.tmp 28), type := 25, pos := "write.go:46", after := #[{ on := 5, ground := Go.Ground.data }], guard := none }) (v := .slice fa fn fc) (by kernel_rfl) (fun _ _ _ h => h) (Or.inl ⟨by kernel_rfl, fun W hW => by obtain ⟨q0, q1, q2⟩ := hW; go_simp⟩) ?_
  simp only [List.getElem_toArray, List.getElem_cons_zero, List.getElem_cons_succ, Act.put, List.setIfInBounds_toArray, List.set_cons_zero, List.set_cons_succ]
  refine seq_take (o := { dst := some 30, op := Go.Op.call { callee := Go.Callee.builtin Go.Builtin.len, args := #[Go.Operand.tmp 29], argTypes := #[25] }, type := 3, pos := "write.go:46", after := #[{ on := 6, ground := Go.Ground.data }], guard := none }) (v := .int .i64 (fn : Int)) (by kernel_rfl) (fun _ _ _ h => h) (Or.inl ⟨by kernel_rfl, fun W hW => by go_simp⟩) ?_
  simp only [List.getElem_toArray, List.getElem_cons_zero, List.getElem_cons_succ, Act.put, List.setIfInBounds_toArray, List.set_cons_zero, List.set_cons_succ]
  refine seq_take (o := { dst := some 31, op := Go.Op.slice 25 (Go.Operand.tmp 24) none (some (Go.Operand.tmp 27)) (some (Go.Operand.tmp 30)), type := 25, pos := "write.go:46", after := #[{ on := 1, ground := Go.Ground.data }, { on := 4, ground := Go.Ground.data }, { on := 7, ground := Go.Ground.data }], guard := none }) (v := .slice fa fn fn) (by kernel_rfl) (fun _ _ _ h => h) (Or.inl ⟨by kernel_rfl, fun W hW => by go_simp⟩) ?_
  simp only [List.getElem_toArray, List.getElem_cons_zero, List.getElem_cons_succ, Act.put, List.setIfInBounds_toArray, List.set_cons_zero, List.set_cons_succ]
  refine seq_take (o := { dst := some 32, op := Go.Op.load 41 (Go.Operand.tmp 3), type := 41, pos := "write.go:46", after := #[], guard := none }) (v := .agg #[.string { data := #[99, 111, 110, 116, 101, 110, 116, 45, 108, 101, 110, 103, 116, 104] }, .string ho]) (by kernel_rfl) (fun _ _ _ h => h) (Or.inl ⟨by kernel_rfl, fun W hW => by obtain ⟨q0, q1, q2⟩ := hW; go_simp⟩) ?_
  simp only [List.getElem_toArray, List.getElem_cons_zero, List.getElem_cons_succ, Act.put, List.setIfInBounds_toArray, List.set_cons_zero, List.set_cons_succ]
  refine seq_take (o := { dst := some 36, op := Go.Op.move (Go.Operand.const (Go.Value.int Go.IntKind.i64 0)), type := 3, pos := "write.go:46", after := #[], guard := none }) (v := .int .i64 0) (by kernel_rfl) (fun _ _ _ h => h) (Or.inl ⟨by kernel_rfl, fun W hW => by go_simp⟩) ?_
  simp only [List.getElem_toArray, List.getElem_cons_zero, List.getElem_cons_succ, Act.put, List.setIfInBounds_toArray, List.set_cons_zero, List.set_cons_succ]
  refine seq_call (o := { dst := some 33, op := Go.Op.buildSlice 25 1 #[(0, Go.Operand.tmp 32)], type := 25, pos := "write.go:46", after := #[{ on := 9, ground := Go.Ground.data }], guard := none }) (by kernel_rfl) (fun KK hK => ?_)
  rw [if_pos (by kernel_rfl)]
  rw [HWe.out]
  go_simp
  go_wp2
  rw [PE.out, H6.out]
  refine hK.out _ _ (⟨B6.out.c.2.1, cO O6.out⟩) ?_
  clear hK KK
  try simp only [List.getElem_toArray, List.getElem_cons_zero, List.getElem_cons_succ, Act.put, List.setIfInBounds_toArray, List.set_cons_zero, List.set_cons_succ]
  refine seq_call (o := { dst := some 34, op := Go.Op.call { callee := Go.Callee.builtin Go.Builtin.append, args := #[Go.Operand.tmp 31, Go.Operand.tmp 33], argTypes := #[25, 25] }, type := 25, pos := "write.go:46", after := #[{ on := 8, ground := Go.Ground.data }, { on := 10, ground := Go.Ground.data }], guard := none }) (by kernel_rfl) (fun KK hK => ?_)
  rw [if_pos (by kernel_rfl)]
  refine wp_app (t := 25) (.tmp 31) (.tmp 33) (by rfl) (by rfl) (by rfl) (by rfl) RUN7 ?_
  refine hK.out _ _ (⟨B7.out.c.2.1, cO O7.out⟩) ?_
  clear hK KK
  try simp only [List.getElem_toArray, List.getElem_cons_zero, List.getElem_cons_succ, Act.put, List.setIfInBounds_toArray, List.set_cons_zero, List.set_cons_succ]
  refine seq_take (o := { dst := some 35, op := Go.Op.call { callee := Go.Callee.builtin Go.Builtin.len, args := #[Go.Operand.tmp 34], argTypes := #[25] }, type := 3, pos := "write.go:46", after := #[{ on := 11, ground := Go.Ground.data }], guard := none }) (v := .int .i64 ((fn : Int) + 1)) (by kernel_rfl) (fun _ _ _ h => h) (Or.inl ⟨by kernel_rfl, fun W hW => by go_simp⟩) ?_
  simp only [List.getElem_toArray, List.getElem_cons_zero, List.getElem_cons_succ, Act.put, List.setIfInBounds_toArray, List.set_cons_zero, List.set_cons_succ]
  show (Exit.then _ _) .normal _ _

  obtain ⟨R, HRR⟩ : ∃ R, Hid (fs ++ [own bn] = R) := ⟨_, rfl⟩
  rw [HRR.out] at F7
  have TOT : Hid (wrt st fs body = ((bo (hdS st) ++ lnsB R) ++ [13, 10]) ++ body) := (by unfold wrt; rw [← BL.out, HRR.out] : wrt st fs body = _)
  have WZ : n5 + (lnsB R).length + 2 + bn ≤ 140737488354304 := by
    have h := hZ.out
    rw [TOT.out] at h
    simp only [List.length_append, List.length_cons, List.length_nil, bo_len, N5.out] at h
    have := BL.out
    omega
  have RL : Hid (fn + 1 = R.length) := F7.out.len
  have S7 : Hid (Ws w w7 g1 st fa fn fc ba bn bc ga (fn + 1) cur R body (some ⟨p5, 0, none⟩) n5 c5 (bo (hdS st) ++ lnsB (R.take 0))) := by
    have h : bo (hdS st) ++ lnsB (R.take 0) = bo (hdS st) := by simp [lnsB]
    rw [h]
    exact ⟨B7.out, F7.out, M7.out, hS.out⟩
  clear SLC
  go_wp2
  go_loopw [36, 4] (fun ti t4 wr => ∃ (i : Nat) (a : Option Addr) (n c : Nat), i ≤ fn + 1 ∧ ti = .int .i64 (i : Int) ∧ t4 = .slice a n c ∧ Hid (Ws w wr g1 st fa fn fc ba bn bc ga (fn + 1) cur R body a n c (bo (hdS st) ++ lnsB (R.take i)))) (fun ti _ _ => (fn + 1) - (intOf ti).toNat)
  case atStart => exact ⟨0, _, n5, c5, by omega, rfl, rfl, S7.out⟩
  case round =>
    obtain ⟨i, a, n, c, hi, rfl, rfl, HS⟩ := hrel
    have NL : Hid (n = n5 + (lnsB (R.take i)).length) := (by have h := HS.out.o.len; rw [List.length_append, bo_len, N5.out] at h; exact h : n = n5 + (lnsB (R.take i)).length)
    by_cases hlt : i < fn + 1
    · have i1 : (i : Int) < (fn : Int) + 1 := by omega
      obtain ⟨x, Hx⟩ : ∃ x, Hid ((R.getD i fz).1 = x) := ⟨_, rfl⟩
      obtain ⟨y, Hy⟩ : ∃ y, Hid ((R.getD i fz).2 = y) := ⟨_, rfl⟩
      obtain ⟨c0, c1⟩ := HS.out.r.cell hlt
      rw [Hx.out] at c0
      rw [Hy.out] at c1
      obtain ⟨w1, hw1⟩ : ∃ w1, w1 = wr.alloc (.cells #[.string x, .string y] 41) := ⟨_, rfl⟩
      have e0 : w1.cell? ⟨wr.heap.size, 0, none⟩ = some (.string x) := by rw [hw1]; simp
      have e1 : w1.cell? ⟨wr.heap.size, 1, none⟩ = some (.string y) := by rw [hw1]; simp
      have H1 : Hid (Ws w w1 g1 st fa fn fc ba bn bc ga (fn + 1) cur R body a n c (bo (hdS st) ++ lnsB (R.take i))) := by rw [hw1]; exact HS.out.below (alloc1 _ _)
      obtain ⟨s, Hs9⟩ : ∃ s, Hid (lnS (x, y) = s) := ⟨_, rfl⟩
      have LX : Hid (lnsB (R.take (i + 1)) = lnsB (R.take i) ++ bo s) := (by
        have h2 : i < R.length := by rw [← RL.out]; exact hlt
        rw [List.take_succ_eq_append_getElem h2, lnsB_snoc, ← Hs9.out]
        have e : R[i] = (x, y) := by
          have e3 : R.getD i fz = R[i] := by simp [List.getD, h2]
          rw [← e3, ← Hx.out, ← Hy.out]
        rw [e] : lnsB (R.take (i + 1)) = _)
      have sz : n + s.size ≤ 140737488354304 := by
        have h := lnsB_take R (i + 1)
        rw [LX.out, List.length_append, bo_len] at h
        have := NL.out
        omega
      have sxy : x.size + y.size + 4 = s.size := by rw [← Hs9.out, lnS_size]
      have s58 : ({ data := #[58, 32] } : ByteArray).size = 2 := rfl
      have A1 := addS x { data := #[58, 32] } (by rw [s58]; omega)
      have A2 := addS (x ++ { data := #[58, 32] }) y (by rw [ba_size_app, s58]; omega)
      have A3 : ∀ W, (Op.stringOp .add ((x ++ { data := #[58, 32] }) ++ y) { data := #[13, 10] }).run Tryz.prog W = .ok (.string s) W := fun W => by
        rw [← Hs9.out]
        exact addS _ _ (by rw [ba_size_app, ba_size_app, s58, s2]; omega) W
      obtain ⟨a', c', W', run9, ws9⟩ := H1.out.str s sz
      have RUN : Hid ((Builtin.append_ #[22, 9] 22 #[.slice a n c, .string s]).run Tryz.prog w1 = .ok (.slice a' (n + s.size) c') W') := run9
      have HN : Hid (Ws w W' g1 st fa fn fc ba bn bc ga (fn + 1) cur R body a' (n + s.size) c' (bo (hdS st) ++ lnsB (R.take (i + 1)))) := by rw [LX.out, ← List.append_assoc]; exact ws9
      clear run9 ws9 sz sxy s58
      go_upto_region 6 with (fail)
      rw [← hw1]
      obtain ⟨q, hq⟩ : ∃ q, q = wr.heap.size := ⟨_, rfl⟩
      rw [← hq] at e0 e1 ⊢
      clear hw1 hq c0 c1
      go_wp2_with (at_builtin; refine wpList_appS (by rfl) (.tmp 40) (.tmp 47) (by rfl) (by rfl) (by rfl) (by rfl) RUN ?_)
      go_roundw
      case rel => exact ⟨i + 1, a', n + s.size, c', by omega, by go_num, rfl, HN.out⟩
      case measure => simp [intOf]; omega
    · obtain rfl : i = fn + 1 := by omega
      have i1 : ¬ (((fn + 1 : Nat) : Int) < (fn : Int) + 1) := by omega
      have TK : Hid (lnsB (R.take (fn + 1)) = lnsB R) := (by rw [List.take_of_length_le (by rw [← RL.out]; exact Nat.le_refl _)] : lnsB (R.take (fn + 1)) = lnsB R)
      have nz : n + 2 + bn ≤ 140737488354304 := by have := NL.out; rw [TK.out] at this; omega
      obtain ⟨a8, c8, w8, run8, ws8⟩ := HS.out.str { data := #[13, 10] } (by rw [s2]; omega)
      rw [s2] at run8 ws8
      have RUN8 : Hid ((Builtin.append_ #[22, 9] 22 #[.slice a n c, .string { data := #[13, 10] }]).run Tryz.prog wr = .ok (.slice a8 (n + 2) c8) w8) := run8
      have S8 : Hid (Ws w w8 g1 st fa fn fc ba bn bc ga (fn + 1) cur R body a8 (n + 2) c8 ((bo (hdS st) ++ lnsB R) ++ [13, 10])) := by rw [TK.out] at ws8; exact ws8
      obtain ⟨a9, c9, w9, run9, om9, gr9, _⟩ := om_sln (c2 := bc) S8.out.o (hS.out.below S8.out.b.b.bel) hbc.out nz S8.out.b.b.bel.size
      have RUN9 : Hid ((Builtin.append_ #[22, 22] 22 #[.slice a8 (n + 2) c8, .slice ba bn bc]).run Tryz.prog w8 = .ok (.slice a9 (n + 2 + bn) c9) w9) := run9
      have FIN : Hid (Om w9 w.heap.size a9 (n + 2 + bn) c9 (wrt st fs body) ∧ Below w.heap.size w w9) := ⟨by rw [TOT.out]; exact om9, S8.out.b.b.bel.grown gr9 S8.out.b.b.bel.size (fun q e => (S8.out.o.lt_ q e).1)⟩
      obtain ⟨k0, k1, k2⟩ := S8.out.b.c
      clear run8 ws8 run9 om9 gr9 nz s2
      go_wp2_with (first
        | (at_builtin; refine wpList_appS (by rfl) (.tmp 50) (.const (.string { data := #[13, 10] })) (by rfl) (by rfl) (by rfl) (by rfl) RUN8 ?_)
        | (at_builtin; refine wpList_app (by rfl) (.tmp 52) (.tmp 54) (by rfl) (by rfl) (by rfl) (by rfl) RUN9 ?_))
      go_ret
      exact ⟨a9, n + 2 + bn, c9, rfl, FIN.out⟩
end Go.Proofs.YtemhhlongfabmaaGreatDoor
