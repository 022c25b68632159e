/- The document's Write. -/
import Derived.Test.YtemhhlongfabmaaGreatDoorHx
import Derived.Test.YtemhhlongfabmaaGreatDoorCt
namespace Go.Proofs.YtemhhlongfabmaaGreatDoor
open Go.ChangeShapes Go.WideShapes Go.ChangeAt Go.RowKit
set_option maxRecDepth 20000
set_option linter.unusedVariables false
set_option linter.unusedSimpArgs false
set_option maxHeartbeats 4000000 in
theorem refwrite_n {st : Int} {fa : Option Addr} {fn fc : Nat} {fs : List Fl} {ba : Option Addr} {bn bc : Nat} {body : List Nat} {w : World} (hF : Hid (Fw w fa fn fs)) (hS : Hid (Sln w ba bn body)) (hbc : Hid (ba = none → bc = 0)) (h0 : -9223372036854775808 ≤ st) (h1 : st ≤ 9223372036854775807) (hZ : Hid ((wrt st fs body).length ≤ 140737488354304)) :
    Calls Tryz.prog 22 #[.agg #[.int .i64 st, .slice fa fn fc, .slice ba bn bc]] w fun e w' => ∃ a n c, e = .returned (.slice a n c) ∧ Hid (Om w' w.heap.size a n c (wrt st fs body) ∧ Below w.heap.size w w') := by
  have BL : Hid (bn = body.length) := hS.out.len
  have fsz := hF.out.sz
  have bnz : bn ≤ 140737488354304 := by rw [BL.out]; exact hS.out.sli.2.1
  obtain ⟨ho, HO⟩ : ∃ s, Hid (itS (bn : Int) = s) := ⟨_, rfl⟩
  have zo : ho.size ≤ 20 := by rw [← HO.out]; exact itS_size _ (by omega) (by omega)
  obtain ⟨ha, HA⟩ : ∃ s, Hid (itS st = s) := ⟨_, rfl⟩
  have za : ha.size ≤ 20 := by rw [← HA.out]; exact itS_size _ h0 h1
  obtain ⟨hr, HR⟩ : ∃ s, Hid (rsn st = s) := ⟨_, rfl⟩
  have zr : hr.size ≤ 40 := by rw [← HR.out]; exact rsn_size st
  have HD : Hid (hdS st = ((({ data := #[72, 84, 84, 80, 47, 49, 46, 49, 32] } ++ ha) ++ { data := #[32] }) ++ hr) ++ { data := #[13, 10] }) := (by unfold hdS; rw [HA.out, HR.out]; rfl : hdS st = _)
  obtain ⟨g1, G1⟩ : ∃ g, Hid (w.heap.size = g) := ⟨_, rfl⟩
  obtain ⟨w0, H0⟩ : ∃ w0, Hid (w.alloc (.cells #[.int .i64 st, .slice fa fn fc, .slice ba bn bc] 46) = w0) := ⟨_, rfl⟩
  have B0 : Hid (Wb w w0 g1 st fa fn fc ba bn bc) := by rw [← H0.out, ← G1.out]; exact ⟨Bx.new w w 46 _ (Below.refl _ _)⟩
  go_enter Tryz.func22, Tryz.ntmps22
  go_upto_region 1 with (fail)
  rw [H0.out, G1.out]
  obtain ⟨wd, HWd⟩ : ∃ wd, Hid (w0.drew = wd) := ⟨_, rfl⟩
  have DD : Hid (Below w0.heap.size w0 wd) := by rw [← HWd.out]; exact (Below.refl _ _).drew
  have Bd : Hid (Wb w wd g1 st fa fn fc ba bn bc) := B0.out.below DD.out
  have s9 : ({ data := #[72, 84, 84, 80, 47, 49, 46, 49, 32] } : ByteArray).size = 9 := rfl
  have s1 : ({ data := #[32] } : ByteArray).size = 1 := rfl
  have s2 : ({ data := #[13, 10] } : ByteArray).size = 2 := rfl
  have A3 := addS { data := #[72, 84, 84, 80, 47, 49, 46, 49, 32] } ha (by rw [s9]; omega)
  have A4 := addS ({ data := #[72, 84, 84, 80, 47, 49, 46, 49, 32] } ++ ha) { data := #[32] } (by rw [ba_size_app, s9, s1]; omega)
  have A8 := addS (({ data := #[72, 84, 84, 80, 47, 49, 46, 49, 32] } ++ ha) ++ { data := #[32] }) hr (by rw [ba_size_app, ba_size_app, s9, s1]; omega)
  have A9 := addS ((({ data := #[72, 84, 84, 80, 47, 49, 46, 49, 32] } ++ ha) ++ { data := #[32] }) ++ hr) { data := #[13, 10] } (by rw [ba_size_app, ba_size_app, ba_size_app, s9, s1, s2]; omega)
  rw [← HD.out] at A9
  refine wp_region_seq (C := fun W => W.cell? ⟨g1, 0, none⟩ = some (.int .i64 st)) [(0, false), (1, false), (5, false), (6, false), (2, true), (3, false), (4, false), (7, true), (8, false), (9, false), (10, false)] (by kernel_rfl) (by kernel_rfl) (by rw [HWd.out]; exact Bd.out.c.1) ?_
  refine seq_take (o := { dst := some 6, op := Go.Op.fieldAddr 46 (Go.Operand.tmp 1) 0, type := 0, pos := "ref.go:164", after := #[], guard := none }) (v := .pointer (some ⟨g1, 0, none⟩)) (by kernel_rfl) (fun _ _ _ h => h) (Or.inl ⟨by kernel_rfl, fun W hW => by go_simp⟩) ?_
  simp only [List.getElem_toArray, List.getElem_cons_zero, List.getElem_cons_succ, Act.put, List.setIfInBounds_toArray, List.set_cons_zero, List.set_cons_succ]
  refine seq_take (o := { dst := some 7, op := Go.Op.load 3 (Go.Operand.tmp 6), type := 3, pos := "ref.go:164", after := #[{ on := 0, ground := Go.Ground.data }], guard := none }) (v := .int .i64 st) (by kernel_rfl) (fun _ _ _ h => h) (Or.inl ⟨by kernel_rfl, fun W hW => by go_simp⟩) ?_
  simp only [List.getElem_toArray, List.getElem_cons_zero, List.getElem_cons_succ, Act.put, List.setIfInBounds_toArray, List.set_cons_zero, List.set_cons_succ]
  refine seq_take (o := { dst := some 11, op := Go.Op.fieldAddr 46 (Go.Operand.tmp 1) 0, type := 0, pos := "ref.go:164", after := #[], guard := none }) (v := .pointer (some ⟨g1, 0, none⟩)) (by kernel_rfl) (fun _ _ _ h => h) (Or.inl ⟨by kernel_rfl, fun W hW => by go_simp⟩) ?_
  simp only [List.getElem_toArray, List.getElem_cons_zero, List.getElem_cons_succ, Act.put, List.setIfInBounds_toArray, List.set_cons_zero, List.set_cons_succ]
  refine seq_take (o := { dst := some 12, op := Go.Op.load 3 (Go.Operand.tmp 11), type := 3, pos := "ref.go:164", after := #[{ on := 5, ground := Go.Ground.data }], guard := none }) (v := .int .i64 st) (by kernel_rfl) (fun _ _ _ h => h) (Or.inl ⟨by kernel_rfl, fun W hW => by go_simp⟩) ?_
  simp only [List.getElem_toArray, List.getElem_cons_zero, List.getElem_cons_succ, Act.put, List.setIfInBounds_toArray, List.set_cons_zero, List.set_cons_succ]
  refine seq_call (o := { dst := some 8, op := Go.Op.call { callee := Go.Callee.value (Go.Operand.func 36), args := #[Go.Operand.tmp 7], argTypes := #[3] }, type := 9, pos := "ref.go:164", after := #[{ on := 1, ground := Go.Ground.data }], guard := none }) (by kernel_rfl) (fun KK hK => ?_)
  rw [if_pos (by kernel_rfl)]
  rw [HWd.out]
  go_wp2_with (go_at_call 36; refine (signed_n st h0 h1 wd).mono ?_; rintro e w3 ⟨rfl, D3⟩; rw [HA.out])
  have B3 : Hid (Wb w w3 g1 st fa fn fc ba bn bc) := Bd.out.below D3.out
  refine hK.out _ _ (B3.out.c.1) ?_
  clear hK KK
  try simp only [List.getElem_toArray, List.getElem_cons_zero, List.getElem_cons_succ, Act.put, List.setIfInBounds_toArray, List.set_cons_zero, List.set_cons_succ]
  refine seq_take (o := { dst := some 9, op := Go.Op.binOp Go.BinOp.add 9 (Go.Operand.const (Go.Value.string { data := #[72, 84, 84, 80, 47, 49, 46, 49, 32] })) (Go.Operand.tmp 8) 9, type := 9, pos := "ref.go:164", after := #[{ on := 2, ground := Go.Ground.data }], guard := none }) (v := .string ({ data := #[72, 84, 84, 80, 47, 49, 46, 49, 32] } ++ ha)) (by kernel_rfl) (fun _ _ _ h => h) (Or.inl ⟨by kernel_rfl, fun W hW => by go_simp⟩) ?_
  simp only [List.getElem_toArray, List.getElem_cons_zero, List.getElem_cons_succ, Act.put, List.setIfInBounds_toArray, List.set_cons_zero, List.set_cons_succ]
  refine seq_take (o := { dst := some 10, op := Go.Op.binOp Go.BinOp.add 9 (Go.Operand.tmp 9) (Go.Operand.const (Go.Value.string { data := #[32] })) 9, type := 9, pos := "ref.go:164", after := #[{ on := 3, ground := Go.Ground.data }], guard := none }) (v := .string (({ data := #[72, 84, 84, 80, 47, 49, 46, 49, 32] } ++ ha) ++ { data := #[32] })) (by kernel_rfl) (fun _ _ _ h => h) (Or.inl ⟨by kernel_rfl, fun W hW => by go_simp⟩) ?_
  simp only [List.getElem_toArray, List.getElem_cons_zero, List.getElem_cons_succ, Act.put, List.setIfInBounds_toArray, List.set_cons_zero, List.set_cons_succ]
  refine seq_call (o := { dst := some 13, op := Go.Op.call { callee := Go.Callee.value (Go.Operand.func 20), args := #[Go.Operand.tmp 12], argTypes := #[3] }, type := 9, pos := "ref.go:164", after := #[{ on := 6, ground := Go.Ground.data }, { on := 2, ground := Go.Ground.chain }], guard := none }) (by kernel_rfl) (fun KK hK => ?_)
  rw [if_pos (by kernel_rfl)]
  go_wp2_with (go_at_call 20; refine (refreason_n st _).mono ?_; rintro e w5 ⟨rfl, D5⟩; rw [HR.out])
  have B5 : Hid (Wb w w5 g1 st fa fn fc ba bn bc) := B3.out.below D5.out
  refine hK.out _ _ (B5.out.c.1) ?_
  clear hK KK
  try simp only [List.getElem_toArray, List.getElem_cons_zero, List.getElem_cons_succ, Act.put, List.setIfInBounds_toArray, List.set_cons_zero, List.set_cons_succ]
  refine seq_take (o := { dst := some 14, op := Go.Op.binOp Go.BinOp.add 9 (Go.Operand.tmp 10) (Go.Operand.tmp 13) 9, type := 9, pos := "ref.go:164", after := #[{ on := 4, ground := Go.Ground.data }, { on := 7, ground := Go.Ground.data }], guard := none }) (v := .string ((({ data := #[72, 84, 84, 80, 47, 49, 46, 49, 32] } ++ ha) ++ { data := #[32] }) ++ hr)) (by kernel_rfl) (fun _ _ _ h => h) (Or.inl ⟨by kernel_rfl, fun W hW => by go_simp⟩) ?_
  simp only [List.getElem_toArray, List.getElem_cons_zero, List.getElem_cons_succ, Act.put, List.setIfInBounds_toArray, List.set_cons_zero, List.set_cons_succ]
  refine seq_take (o := { dst := some 15, op := Go.Op.binOp Go.BinOp.add 9 (Go.Operand.tmp 14) (Go.Operand.const (Go.Value.string { data := #[13, 10] })) 9, type := 9, pos := "ref.go:164", after := #[{ on := 8, ground := Go.Ground.data }], guard := none }) (v := .string (hdS st)) (by kernel_rfl) (fun _ _ _ h => h) (Or.inl ⟨by kernel_rfl, fun W hW => by go_simp⟩) ?_
  simp only [List.getElem_toArray, List.getElem_cons_zero, List.getElem_cons_succ, Act.put, List.setIfInBounds_toArray, List.set_cons_zero, List.set_cons_succ]
  refine seq_take (o := { dst := some 3, op := Go.Op.assign (Go.Operand.tmp 15), type := 9, pos := "ref.go:164", after := #[{ on := 9, ground := Go.Ground.data }, { on := 7, ground := Go.Ground.chain }, { on := 0, ground := Go.Ground.phase }, { on := 1, ground := Go.Ground.phase }, { on := 2, ground := Go.Ground.phase }, { on := 3, ground := Go.Ground.phase }, { on := 4, ground := Go.Ground.phase }, { on := 5, ground := Go.Ground.phase }, { on := 6, ground := Go.Ground.phase }, { on := 7, ground := Go.Ground.phase }, { on := 8, ground := Go.Ground.phase }, { on := 9, ground := Go.Ground.phase }], guard := none }) (v := .string (hdS st)) (by kernel_rfl) (fun _ _ _ h => h) (Or.inl ⟨by kernel_rfl, fun W hW => by go_simp⟩) ?_
  simp only [List.getElem_toArray, List.getElem_cons_zero, List.getElem_cons_succ, Act.put, List.setIfInBounds_toArray, List.set_cons_zero, List.set_cons_succ]
  show (Exit.then _ _) .normal _ _

  obtain ⟨hd, HH⟩ : ∃ l, Hid (bo (hdS st) = l) := ⟨_, rfl⟩
  have HS0 : Hid (hdS st = spell hd) := (by rw [← HH.out, spell_bo] : hdS st = spell hd)
  have zh : hd.length ≤ 72 := by rw [← HH.out, bo_len, hdS_size, HA.out, HR.out]; omega
  rw [HS0.out]
  have TOT : Hid (wrt st fs body = ((hd ++ (lnsB fs ++ bo (lnS (own bn)))) ++ [13, 10]) ++ body) := (by unfold wrt; rw [← BL.out, lnsB_snoc, HH.out] : wrt st fs body = _)
  have WZ : hd.length + ((lnsB fs).length + (lnS (own bn)).size) + 2 + bn ≤ 140737488354304 := by
    have h := hZ.out
    rw [TOT.out] at h
    simp only [List.length_append, List.length_cons, List.length_nil, bo_len] at h
    have := BL.out
    omega
  have RL : Hid (fn = fs.length) := hF.out.len
  clear A3 A4 A8 A9 s9 s1
  go_upto_region 2 with (fail)
  obtain ⟨q0, q1, q2⟩ := B5.out.c
  go_wp2
  go_loopw [19, 3] (fun ti ts wr => ∃ (i : Nat), i ≤ fn ∧ ti = .int .i64 (i : Int) ∧ ts = .string (spell (hd ++ lnsB (fs.take i))) ∧ Hid (Wb w wr g1 st fa fn fc ba bn bc)) (fun ti _ _ => fn - (intOf ti).toNat)
  case atStart => exact ⟨0, by omega, rfl, by simp [lnsB], B5.out⟩
  case round =>
    obtain ⟨i, hi, rfl, rfl, HB⟩ := hrel
    obtain ⟨L, HL⟩ : ∃ L, Hid (hd ++ lnsB (fs.take i) = L) := ⟨_, rfl⟩
    have LZ : L.length ≤ hd.length + (lnsB fs).length := by rw [← HL.out, List.length_append]; have := lnsB_take fs i; omega
    rw [HL.out]
    clear q0 q1 q2
    by_cases hlt : i < fn
    · have i1 : (i : Int) < (fn : Int) := by omega
      obtain ⟨bb, off, rfl, hb, hc⟩ := (hF.out.below HB.out.b.bel).at_.resolve_left (by omega)
      obtain ⟨c0, c1⟩ := hc i hlt
      obtain ⟨x, Hx⟩ : ∃ x, Hid ((fs.getD i fz).1 = x) := ⟨_, rfl⟩
      obtain ⟨y, Hy⟩ : ∃ y, Hid ((fs.getD i fz).2 = y) := ⟨_, rfl⟩
      rw [Hx.out] at c0
      rw [Hy.out] at c1
      clear hc
      obtain ⟨w1, hw1⟩ : ∃ w1, w1 = wr.alloc (.cells #[.string x, .string y] 41) := ⟨_, rfl⟩
      have e0 : w1.cell? ⟨wr.heap.size, 0, none⟩ = some (.string x) := by rw [hw1]; simp
      have e1 : w1.cell? ⟨wr.heap.size, 1, none⟩ = some (.string y) := by rw [hw1]; simp
      have H1 : Hid (Wb w w1 g1 st (some ⟨bb, off, none⟩) fn fc ba bn bc) := by rw [hw1]; exact HB.out.below (alloc1 _ _)
      obtain ⟨s, Hs9⟩ : ∃ s, Hid (lnS (x, y) = s) := ⟨_, rfl⟩
      have LX : Hid (lnsB (fs.take (i + 1)) = lnsB (fs.take i) ++ bo s) := (by
        have h2 : i < fs.length := by rw [← RL.out]; exact hlt
        rw [List.take_succ_eq_append_getElem h2, lnsB_snoc, ← Hs9.out]
        have e : fs[i] = (x, y) := by
          have e3 : fs.getD i fz = fs[i] := by simp [List.getD, h2]
          rw [← e3, ← Hx.out, ← Hy.out]
        rw [e] : lnsB (fs.take (i + 1)) = _)
      have sz : s.size ≤ (lnsB fs).length := by
        have h := lnsB_take fs (i + 1)
        rw [LX.out, List.length_append, bo_len] at h
        omega
      have sxy : x.size + y.size + 4 = s.size := by rw [← Hs9.out, lnS_size]
      have s58 : ({ data := #[58, 32] } : ByteArray).size = 2 := rfl
      have A1 := addS x { data := #[58, 32] } (by rw [s58]; omega)
      have A2 := addS (x ++ { data := #[58, 32] }) y (by rw [ba_size_app, s58]; omega)
      have A3 : ∀ W, (Op.stringOp .add ((x ++ { data := #[58, 32] }) ++ y) { data := #[13, 10] }).run Tryz.prog W = .ok (.string s) W := fun W => by
        rw [← Hs9.out]
        exact addS _ _ (by rw [ba_size_app, ba_size_app, s58, s2]; omega) W
      have A4 : ∀ W, (Op.stringOp .add (spell L) s).run Tryz.prog W = .ok (.string (spell (hd ++ lnsB (fs.take (i + 1))))) W := fun W => by
        have h := addS (spell L) s (by rw [spell_sz]; omega) W
        rw [LX.out, ← List.append_assoc, HL.out, spell_app, spell_bo]
        exact h
      clear sz sxy s58
      go_upto_region 5 with (fail)
      rw [← hw1]
      obtain ⟨q, hq⟩ : ∃ q, q = wr.heap.size := ⟨_, rfl⟩
      rw [← hq] at e0 e1 ⊢
      clear hw1 hq c0 c1
      go_wp2
      go_roundw
      case rel => exact ⟨i + 1, by omega, by go_num, rfl, H1.out⟩
      case measure => simp [intOf]; omega
    · have TK : Hid (hd ++ lnsB fs = L) := (by rw [← HL.out, List.take_of_length_le (by rw [← RL.out]; omega)] : hd ++ lnsB fs = L)
      obtain ⟨q0, q1, q2⟩ := HB.out.c
      go_upto_region 7 with (fail)
      have sc : ({ data := #[99, 111, 110, 116, 101, 110, 116, 45, 108, 101, 110, 103, 116, 104, 58, 32] } : ByteArray).size = 16 := rfl
      have s4 : ({ data := #[13, 10, 13, 10] } : ByteArray).size = 4 := rfl
      have OW : Hid ((lnS (own bn)).size = 14 + ho.size + 4) := (by rw [lnS_size]; show cln.size + (itS bn).size + 4 = _; rw [HO.out]; rfl : (lnS (own bn)).size = 14 + ho.size + 4)
      obtain ⟨F, HF⟩ : ∃ F : List Nat, Hid (((hd ++ (lnsB fs ++ bo (lnS (own bn)))) ++ [13, 10] : List Nat) = F) := ⟨_, (rfl : ((hd ++ (lnsB fs ++ bo (lnS (own bn)))) ++ [13, 10] : List Nat) = _)⟩
      have FL : F.length = L.length + (14 + ho.size + 4) + 2 := by
        rw [← HF.out, ← List.append_assoc hd, TK.out]
        simp only [List.length_append, List.length_cons, List.length_nil, bo_len]
        rw [OW.out]
      have FZ : F.length + bn ≤ 140737488354304 := by
        have h := hZ.out
        rw [TOT.out, HF.out, List.length_append, ← BL.out] at h
        exact h
      have FB : Hid (∀ x ∈ F, x < 256) := fun x hx => by
        have h : F = bo (spell F) := by
          rw [← HF.out]
          have e : (hd ++ (lnsB fs ++ bo (lnS (own bn)))) ++ [13, 10] = bo (hdS st) ++ (lnsB fs ++ (bo (lnS (own bn)) ++ bo { data := #[13, 10] })) := by rw [HH.out]; simp [bo]
          rw [e]
          have l1 : ∀ x ∈ bo (hdS st) ++ (lnsB fs ++ (bo (lnS (own bn)) ++ bo { data := #[13, 10] })), x < 256 := by
            intro x hx
            rcases List.mem_append.1 hx with hx | hx
            · exact bo_lt _ x hx
            · rcases List.mem_append.1 hx with hx | hx
              · obtain ⟨f, _, hf⟩ := List.mem_flatMap.1 hx
                exact bo_lt _ x hf
              · rcases List.mem_append.1 hx with hx | hx
                · exact bo_lt _ x hx
                · exact bo_lt _ x hx
          exact (bo_spell l1).symm
        rw [h] at hx
        exact bo_lt _ x hx
      have A5 := addS { data := #[99, 111, 110, 116, 101, 110, 116, 45, 108, 101, 110, 103, 116, 104, 58, 32] } ho (by rw [sc]; omega)
      have A6 := addS ({ data := #[99, 111, 110, 116, 101, 110, 116, 45, 108, 101, 110, 103, 116, 104, 58, 32] } ++ ho) { data := #[13, 10, 13, 10] } (by rw [ba_size_app, sc, s4]; omega)
      have A7 : ∀ W, (Op.stringOp .add (spell L) (({ data := #[99, 111, 110, 116, 101, 110, 116, 45, 108, 101, 110, 103, 116, 104, 58, 32] } ++ ho) ++ { data := #[13, 10, 13, 10] })).run Tryz.prog W = .ok (.string (spell F)) W := fun W => by
        have h := addS (spell L) (({ data := #[99, 111, 110, 116, 101, 110, 116, 45, 108, 101, 110, 103, 116, 104, 58, 32] } ++ ho) ++ { data := #[13, 10, 13, 10] }) (by rw [ba_size_app, ba_size_app, sc, s4, spell_sz]; omega) W
        have e : spell F = spell L ++ (({ data := #[99, 111, 110, 116, 101, 110, 116, 45, 108, 101, 110, 103, 116, 104, 58, 32] } ++ ho) ++ { data := #[13, 10, 13, 10] }) := by
          rw [← HF.out, ← List.append_assoc hd, TK.out, List.append_assoc, spell_app]
          congr 1
          have e2 : bo (lnS (own bn)) ++ [13, 10] = bo (({ data := #[99, 111, 110, 116, 101, 110, 116, 45, 108, 101, 110, 103, 116, 104, 58, 32] } ++ ho) ++ { data := #[13, 10, 13, 10] }) := by
            have e3 : lnS (own bn) = ((cln ++ { data := #[58, 32] }) ++ ho) ++ { data := #[13, 10] } := by unfold lnS own; rw [HO.out]
            rw [e3]
            simp only [bo_app]
            have f1 : bo cln = [99, 111, 110, 116, 101, 110, 116, 45, 108, 101, 110, 103, 116, 104] := rfl
            have f2 : bo { data := #[58, 32] } = [58, 32] := rfl
            have f3 : bo { data := #[13, 10] } = [13, 10] := rfl
            have f4 : bo { data := #[13, 10, 13, 10] } = [13, 10, 13, 10] := rfl
            have f5 : bo { data := #[99, 111, 110, 116, 101, 110, 116, 45, 108, 101, 110, 103, 116, 104, 58, 32] } = [99, 111, 110, 116, 101, 110, 116, 45, 108, 101, 110, 103, 116, 104, 58, 32] := rfl
            rw [f1, f2, f3, f4, f5]
            simp
          rw [e2, spell_bo]
        rw [e]
        exact h
      go_upto_region 8 with (go_at_call 37; refine (decimal_n bn (by omega) _).mono ?_; rintro e w6 ⟨rfl, D6⟩; rw [HO.out])
      clear A5 A6 A7 sc s4
      have B6 : Hid (Wb w w6 g1 st fa fn fc ba bn bc) := HB.out.below D6.out
      have CV := run_cv w6 (spell F)
      obtain ⟨w7, H7⟩ : ∃ w7, Hid (cvW w6 (spell F) = w7) := ⟨_, rfl⟩
      obtain ⟨c7, C7⟩ : ∃ c, Hid (cvC w6 (spell F) = c) := ⟨_, rfl⟩
      obtain ⟨g7, G7⟩ : ∃ g, Hid (w6.heap.size = g) := ⟨_, rfl⟩
      obtain ⟨n7, N7⟩ : ∃ n, Hid (F.length = n) := ⟨_, rfl⟩
      have n7z : n7 + bn ≤ 140737488354304 := by rw [← N7.out]; exact FZ
      have D7 : Hid (Below w6.heap.size w6 w7) := by rw [← H7.out]; exact cvW_below _ _
      have M7 : Hid (Om w7 w.heap.size (some ⟨g7, 0, none⟩) n7 c7 F) := by
        have h := cvW_om w6 F FB.out w.heap.size B6.out.b.bel.size (by rw [N7.out]; simp only [maxLen]; omega)
        rw [H7.out, C7.out, G7.out, N7.out] at h
        exact h
      rw [H7.out, C7.out, G7.out, spell_sz, N7.out] at CV
      have B7 : Hid (Wb w w7 g1 st fa fn fc ba bn bc) := B6.out.below D7.out
      obtain ⟨r0, r1, r2⟩ := B7.out.c
      obtain ⟨a9, c9, w9, run9, om9, gr9, _⟩ := om_sln (c2 := bc) M7.out (hS.out.below B7.out.b.bel) hbc.out n7z B7.out.b.bel.size
      have RUN9 : Hid ((Builtin.append_ #[22, 22] 22 #[.slice (some ⟨g7, 0, none⟩) n7 c7, .slice ba bn bc]).run Tryz.prog w7 = .ok (.slice a9 (n7 + bn) c9) w9) := run9
      have FIN : Hid (Om w9 w.heap.size a9 (n7 + bn) c9 (wrt st fs body) ∧ Below w.heap.size w w9) := ⟨by rw [TOT.out, HF.out]; exact om9, B7.out.b.bel.grown gr9 B7.out.b.bel.size (fun q e => (M7.out.lt_ q e).1)⟩
      clear run9 om9 gr9 n7z FZ FL q0 q1 q2
      go_wp2_with (at_builtin; refine wpList_app (by rfl) (.tmp 42) (.tmp 44) (by rfl) (by rfl) (by rfl) (by rfl) RUN9 ?_)
      go_ret
      exact ⟨a9, n7 + bn, c9, rfl, FIN.out⟩
end Go.Proofs.YtemhhlongfabmaaGreatDoor
