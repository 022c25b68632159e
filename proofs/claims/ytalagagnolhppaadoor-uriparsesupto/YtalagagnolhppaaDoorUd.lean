/- Encode: for all texts that have room. -/
import Derived.Test.YtalagagnolhppaaDoorUc
import Derived.Test.YtalagagnolhppaaDoorCe
import Derived.Test.YtalagagnolhppaaDoorRa
import Derived.Laws.BitsAllLaws
namespace Go.Proofs.YtalagagnolhppaaDoor
open Go.ChangeShapes Go.WideShapes Go.ChangeAt Go.RowKit
set_option maxRecDepth 20000
set_option linter.unusedVariables false
set_option linter.unusedSimpArgs false
def DGS : ByteArray := ⟨#[48, 49, 50, 51, 52, 53, 54, 55, 56, 57, 65, 66, 67, 68, 69, 70]⟩
theorem dgs_at : ∀ k, k < 16 → sb DGS k = hd k := by decide
theorem sb_ix8 (s : ByteArray) (i : Nat) (z : Int) (hz : z = (i : Int)) (h : i < s.size) (w : World) : (Instr.index 9 (.string s) (.int .u8 z)).run Tryd.prog w = .ok (.int .u8 (sb s i : Nat)) w := by
  subst hz
  rw [run_index_string w _ _ _ _ Tryd.underlying9, dif_pos ⟨by omega, by omega⟩]
  have e : (s[((i : Int)).toNat]'(by simpa using h)).toNat = sb s i := by
    have h3 : i < s.data.size := h
    have e2 : s.data.toList.getD i 0 = s.data[i] := by
      rw [List.getD, Array.getElem?_toList, Array.getElem?_eq_getElem h3]
      rfl
    unfold sb
    rw [e2]
    rfl
  rw [e]
theorem app_three {w : World} {B : Nat} {a : Option Addr} {n c : Nat} {L : List Nat} {x y z : Nat} (ho : Own w B a n c L) (hx : x < 256) (hy : y < 256) (hz : z < 256) (hb : n + 3 ≤ 140737488354304) (hB : B ≤ w.heap.size) :
    ∃ a' c' w', (Builtin.append_ #[61, 61] 61 #[.slice a n c, .slice (some ⟨w.heap.size, 0, none⟩) 3 3]).run Tryd.prog (w.alloc (.cells #[.int .u8 (x : Int), .int .u8 (y : Int), .int .u8 (z : Int)] 5)) = .ok (.slice a' (n + 3) c') w' ∧ Own w' B a' (n + 3) c' (L ++ [x, y, z]) ∧ (w.alloc (.cells #[.int .u8 (x : Int), .int .u8 (y : Int), .int .u8 (z : Int)] 5)).grownBy w' (blkOf a) := by
  have h1 : Own (w.alloc (.cells #[.int .u8 (x : Int), .int .u8 (y : Int), .int .u8 (z : Int)] 5)) B a n c L := ho.block (fun q hq => (alloc1 w _).block q (ho.ge q hq).2)
  have h2 : Blk (w.alloc (.cells #[.int .u8 (x : Int), .int .u8 (y : Int), .int .u8 (z : Int)] 5)) w.heap.size [x, y, z] := by
    show (w.heap.push _)[w.heap.size]? = _
    simp [bv]
  have h3 := h2.sln (by intro q hq; simp only [List.mem_cons, List.not_mem_nil, or_false] at hq; omega) (by simp)
  obtain ⟨a', c', w', r, ow, gr, _⟩ := app_any (c2 := 3) h1 h3 (fun e => by cases e) (by simpa using hb) (by simp; omega)
  exact ⟨a', c', w', r, ow, gr⟩
theorem take_bl {s : ByteArray} {i : Nat} (h : i < s.size) : (bl s).take (i + 1) = (bl s).take i ++ [sb s i] := by
  have h2 : i < (bl s).length := by rw [bl_len]; exact h
  rw [List.take_succ_eq_append_getElem h2, bl_at h2]
set_option maxHeartbeats 4000000 in
theorem encode_n (s : ByteArray) (sl : Bool) (hs : s.size ≤ 46912496118101) (w : World) : Calls Tryd.prog 16 #[.string s, .bool sl] w fun e w' => e = .returned (.string (encS sl s)) ∧ Hid (Below w.heap.size w w') := by
  have MK := make_cap s.size (by omega) w
  have O0 := own_cap w s.size (by omega)
  obtain ⟨w0, H0⟩ : ∃ q, Hid (w.alloc (.cells (madeCells #[.int .u8 0] s.size) 5) = q) := ⟨_, rfl⟩
  have B0 : Hid (Below w.heap.size w w0) := by rw [← H0.out]; exact alloc1 _ _
  rw [H0.out] at MK O0
  obtain ⟨h0, HH⟩ : ∃ q, Hid (w.heap.size = q) := ⟨_, rfl⟩
  have O0 : Hid (Own w0 w.heap.size (some ⟨h0, 0, none⟩) 0 s.size []) := by rw [← HH.out]; exact O0
  rw [HH.out] at MK
  go_enter Tryd.func16, Tryd.ntmps16
  go_wp2
  go_loopw [13, 5] (fun ti ta wr => ∃ (i : Nat) (a : Option Addr) (n c : Nat) (out : List Nat), i ≤ s.size ∧ n ≤ 3 * i ∧ ti = .int .i64 (i : Int) ∧ ta = .slice a n c ∧ Hid (out = enc sl ((bl s).take i)) ∧ Hid (Own wr w.heap.size a n c out) ∧ Hid (Below w.heap.size w wr)) (fun ti _ _ => s.size - (intOf ti).toNat)
  case atStart => exact ⟨0, _, 0, _, [], by omega, by omega, rfl, rfl, rfl, O0.out, B0.out⟩
  case round =>
    clear MK O0 B0 H0
    obtain ⟨i, a, n, c, out, hi, hn, rfl, rfl, HE, HO, HB⟩ := hrel
    by_cases hlt : i < s.size
    · have i1 : (i : Int) < (s.size : Int) := by omega
      have X0 := fun W => sb_ix s i (i : Int) rfl hlt W
      have b8 := sb_lt s i
      have EX : Hid (enc sl ((bl s).take (i + 1)) = out ++ ec sl (sb s i)) := (by rw [take_bl hlt, enc_snoc, HE.out] : enc sl ((bl s).take (i + 1)) = out ++ ec sl (sb s i))
      obtain ⟨b, Hb⟩ : ∃ q, Hid (sb s i = q) := ⟨_, rfl⟩
      rw [Hb.out] at X0 b8 EX
      clear HE
      cases hp : plB b with
      | true =>
        have EC : Hid (ec sl b = [b]) := (by unfold ec asB; rw [hp]; rfl : ec sl b = [b])
        have PL : Hid (plB b = true) := hp
        clear hp
        have HX : Hid (out ++ [b] = enc sl ((bl s).take (i + 1))) := (by rw [EX.out, EC.out] : out ++ [b] = enc sl ((bl s).take (i + 1)))
        obtain ⟨a', c', w', run, own, gr, _⟩ := app_byte (x := b) HO.out b8 (by omega) HB.out.size
        have RUN : Hid ((Builtin.append_ #[61, 61] 61 #[.slice a n c, .slice (some ⟨wr.heap.size, 0, none⟩) 1 1]).run Tryd.prog (wr.alloc (.cells #[.int .u8 (b : Int)] 5)) = .ok (.slice a' (n + 1) c') w') := run
        have OX : Hid (Own w' w.heap.size a' (n + 1) c' (out ++ [b])) := own
        have BX : Hid (Below w.heap.size w w') := HB.out.grown gr HB.out.size (fun q e => (HO.out.ge q e).1)
        clear run own gr EX EC
        go_wp2_with (first
          | (go_at_call 31; refine (isPlain_n b b8 _).mono ?_; rintro e w1 ⟨rfl, h1⟩; rw [h1, PL.out]; clear h1)
          | (at_builtin; refine wpList_app (by rfl) (.tmp 28) (.tmp 30) (by rfl) (by rfl) (by rfl) (by rfl) RUN.out ?_))
        go_roundw
        case rel => exact ⟨i + 1, a', n + 1, c', _, by omega, by omega, by go_num, rfl, HX.out, OX.out, BX.out⟩
        case measure => simp [intOf]; omega
      | false =>
        have PL : Hid (plB b = false) := hp
        cases sl with
        | true =>
          by_cases b47 : b = 47
          · have EC : Hid (ec true b = [b]) := (by unfold ec asB; rw [hp, decide_eq_true b47]; rfl : ec true b = [b])
            have f47 : ((b : Int) == 47) = true := beq_iff_eq.2 (by omega)
            clear hp b47
            have HX : Hid (out ++ [b] = enc true ((bl s).take (i + 1))) := (by rw [EX.out, EC.out] : out ++ [b] = enc true ((bl s).take (i + 1)))
            obtain ⟨a', c', w', run, own, gr, _⟩ := app_byte (x := b) HO.out b8 (by omega) HB.out.size
            have RUN : Hid ((Builtin.append_ #[61, 61] 61 #[.slice a n c, .slice (some ⟨wr.heap.size, 0, none⟩) 1 1]).run Tryd.prog (wr.alloc (.cells #[.int .u8 (b : Int)] 5)) = .ok (.slice a' (n + 1) c') w') := run
            have OX : Hid (Own w' w.heap.size a' (n + 1) c' (out ++ [b])) := own
            have BX : Hid (Below w.heap.size w w') := HB.out.grown gr HB.out.size (fun q e => (HO.out.ge q e).1)
            clear run own gr EX EC
            go_wp2_with (first
              | (go_at_call 31; refine (isPlain_n b b8 _).mono ?_; rintro e w1 ⟨rfl, h1⟩; rw [h1, PL.out]; clear h1)
              | (at_builtin; refine wpList_app (by rfl) (.tmp 28) (.tmp 30) (by rfl) (by rfl) (by rfl) (by rfl) RUN.out ?_))
            go_roundw
            case rel => exact ⟨i + 1, a', n + 1, c', _, by omega, by omega, by go_num, rfl, HX.out, OX.out, BX.out⟩
            case measure => simp [intOf]; omega
          · have EC : Hid (ec true b = [37, hd (b / 16), hd (b % 16)]) := (by unfold ec asB; rw [hp, decide_eq_false b47]; rfl : ec true b = [37, hd (b / 16), hd (b % 16)])
            have f47 : ((b : Int) == 47) = false := beq_eq_false_iff_ne.2 (by omega)
            clear hp b47
            have HX : Hid (out ++ [37, hd (b / 16), hd (b % 16)] = enc true ((bl s).take (i + 1))) := (by rw [EX.out, EC.out] : out ++ [37, hd (b / 16), hd (b % 16)] = enc true ((bl s).take (i + 1)))
            have q16 : b / 16 < 16 := by omega
            have r16 : b % 16 < 16 := by omega
            obtain ⟨wd, HWD⟩ : ∃ q, Hid (wr.drew = q) := ⟨_, rfl⟩
            have BD : Hid (Below w.heap.size w wd) := by rw [← HWD.out]; exact HB.out.drew
            have OD : Hid (Own wd w.heap.size a n c out) := by rw [← HWD.out]; exact HO.out.block (fun _ _ => rfl)
            obtain ⟨a', c', w', run, own, gr⟩ := app_three (x := 37) OD.out (by omega) (hd_lt q16) (hd_lt r16) (by omega) BD.out.size
            have RUN : Hid ((Builtin.append_ #[61, 61] 61 #[.slice a n c, .slice (some ⟨wd.heap.size, 0, none⟩) 3 3]).run Tryd.prog (wd.alloc (.cells #[.int .u8 37, .int .u8 (hd (b / 16) : Nat), .int .u8 (hd (b % 16) : Nat)] 5)) = .ok (.slice a' (n + 3) c') w') := run
            have OX : Hid (Own w' w.heap.size a' (n + 3) c' (out ++ [37, hd (b / 16), hd (b % 16)])) := own
            have BX : Hid (Below w.heap.size w w') := (BD.out.alloc BD.out.size _).grown gr (BD.out.alloc BD.out.size _).size (fun q e => (OD.out.ge q e).1)
            have I1 : ∀ W, (Instr.index 9 (.string ⟨#[48, 49, 50, 51, 52, 53, 54, 55, 56, 57, 65, 66, 67, 68, 69, 70]⟩) (.int .u8 (IntKind.u8.wrap ((b : Int) / 16)))).run Tryd.prog W = .ok (.int .u8 (hd (b / 16) : Nat)) W := fun W => by
              rw [← dgs_at _ q16]
              exact sb_ix8 DGS (b / 16) _ (by rw [IntKind.wrap_u8']; omega) q16 W
            have I2 : ∀ W, (Instr.index 9 (.string ⟨#[48, 49, 50, 51, 52, 53, 54, 55, 56, 57, 65, 66, 67, 68, 69, 70]⟩) (.int .u8 ((b : Int).tmod 16))).run Tryd.prog W = .ok (.int .u8 (hd (b % 16) : Nat)) W := fun W => by
              rw [← dgs_at _ r16]
              exact sb_ix8 DGS (b % 16) _ (by rw [Int.tmod_eq_emod_of_nonneg (by omega)]; omega) r16 W
            clear run own gr EX EC
            go_upto_region 8 with (go_at_call 31; refine (isPlain_n b b8 _).mono ?_; rintro e w1 ⟨rfl, h1⟩; rw [h1, PL.out]; clear h1)
            refine wp_region_seq (C := fun W => True) [(0, false), (1, false), (2, false), (3, false), (4, false), (5, false), (6, false), (7, true), (8, true), (9, false)] (by kernel_rfl) (by kernel_rfl) (trivial) ?_
            refine seq_take (o := { dst := some 32, op := Go.Op.move (Go.Operand.tmp 5), type := 61, pos := "code.go:14", after := #[], guard := none }) (v := .slice a n c) (by kernel_rfl) (fun _ _ _ h => h) (Or.inl ⟨by kernel_rfl, fun W hW => by go_simp⟩) ?_
            simp only [List.getElem_toArray, List.getElem_cons_zero, List.getElem_cons_succ, Act.put, List.setIfInBounds_toArray, List.set_cons_zero, List.set_cons_succ]
            refine seq_take (o := { dst := some 33, op := Go.Op.move (Go.Operand.tmp 7), type := 5, pos := "code.go:14", after := #[], guard := none }) (v := .int .u8 (b : Int)) (by kernel_rfl) (fun _ _ _ h => h) (Or.inl ⟨by kernel_rfl, fun W hW => by go_simp⟩) ?_
            simp only [List.getElem_toArray, List.getElem_cons_zero, List.getElem_cons_succ, Act.put, List.setIfInBounds_toArray, List.set_cons_zero, List.set_cons_succ]
            refine seq_take (o := { dst := some 34, op := Go.Op.binOp Go.BinOp.quo 5 (Go.Operand.tmp 33) (Go.Operand.const (Go.Value.int Go.IntKind.u8 16)) 5, type := 5, pos := "code.go:14", after := #[{ on := 1, ground := Go.Ground.data }], guard := none }) (v := .int .u8 (IntKind.u8.wrap ((b : Int) / 16))) (by kernel_rfl) (fun _ _ _ h => h) (Or.inl ⟨by kernel_rfl, fun W hW => by go_simp⟩) ?_
            simp only [List.getElem_toArray, List.getElem_cons_zero, List.getElem_cons_succ, Act.put, List.setIfInBounds_toArray, List.set_cons_zero, List.set_cons_succ]
            refine seq_take (o := { dst := some 35, op := Go.Op.index 9 (Go.Operand.const (Go.Value.string { data := #[48, 49, 50, 51, 52, 53, 54, 55, 56, 57, 65, 66, 67, 68, 69, 70] })) (Go.Operand.tmp 34), type := 5, pos := "code.go:14", after := #[{ on := 2, ground := Go.Ground.data }], guard := none }) (v := .int .u8 (hd (b / 16) : Nat)) (by kernel_rfl) (fun _ _ _ h => h) (Or.inl ⟨by kernel_rfl, fun W hW => by go_simp⟩) ?_
            simp only [List.getElem_toArray, List.getElem_cons_zero, List.getElem_cons_succ, Act.put, List.setIfInBounds_toArray, List.set_cons_zero, List.set_cons_succ]
            refine seq_take (o := { dst := some 36, op := Go.Op.move (Go.Operand.tmp 7), type := 5, pos := "code.go:14", after := #[], guard := none }) (v := .int .u8 (b : Int)) (by kernel_rfl) (fun _ _ _ h => h) (Or.inl ⟨by kernel_rfl, fun W hW => by go_simp⟩) ?_
            simp only [List.getElem_toArray, List.getElem_cons_zero, List.getElem_cons_succ, Act.put, List.setIfInBounds_toArray, List.set_cons_zero, List.set_cons_succ]
            refine seq_take (o := { dst := some 37, op := Go.Op.binOp Go.BinOp.rem 5 (Go.Operand.tmp 36) (Go.Operand.const (Go.Value.int Go.IntKind.u8 16)) 5, type := 5, pos := "code.go:14", after := #[{ on := 4, ground := Go.Ground.data }], guard := none }) (v := .int .u8 ((b : Int).tmod 16)) (by kernel_rfl) (fun _ _ _ h => h) (Or.inl ⟨by kernel_rfl, fun W hW => by go_simp⟩) ?_
            simp only [List.getElem_toArray, List.getElem_cons_zero, List.getElem_cons_succ, Act.put, List.setIfInBounds_toArray, List.set_cons_zero, List.set_cons_succ]
            refine seq_take (o := { dst := some 38, op := Go.Op.index 9 (Go.Operand.const (Go.Value.string { data := #[48, 49, 50, 51, 52, 53, 54, 55, 56, 57, 65, 66, 67, 68, 69, 70] })) (Go.Operand.tmp 37), type := 5, pos := "code.go:14", after := #[{ on := 5, ground := Go.Ground.data }], guard := none }) (v := .int .u8 (hd (b % 16) : Nat)) (by kernel_rfl) (fun _ _ _ h => h) (Or.inl ⟨by kernel_rfl, fun W hW => by go_simp⟩) ?_
            simp only [List.getElem_toArray, List.getElem_cons_zero, List.getElem_cons_succ, Act.put, List.setIfInBounds_toArray, List.set_cons_zero, List.set_cons_succ]
            refine seq_call (o := { dst := some 39, op := Go.Op.buildSlice 61 3 #[(0, Go.Operand.const (Go.Value.int Go.IntKind.u8 37)), (1, Go.Operand.tmp 35), (2, Go.Operand.tmp 38)], type := 61, pos := "code.go:14", after := #[{ on := 3, ground := Go.Ground.data }, { on := 6, ground := Go.Ground.data }], guard := none }) (by kernel_rfl) (fun KK hK => ?_)
            rw [if_pos (by kernel_rfl)]
            rw [show (wr.drew) = wd from HWD.out]
            go_simp
            go_wp2
            refine hK.out _ _ (trivial) ?_
            clear hK KK
            try simp only [List.getElem_toArray, List.getElem_cons_zero, List.getElem_cons_succ, Act.put, List.setIfInBounds_toArray, List.set_cons_zero, List.set_cons_succ]
            refine seq_call (o := { dst := some 40, op := Go.Op.call { callee := Go.Callee.builtin Go.Builtin.append, args := #[Go.Operand.tmp 32, Go.Operand.tmp 39], argTypes := #[61, 61] }, type := 61, pos := "code.go:14", after := #[{ on := 0, ground := Go.Ground.data }, { on := 7, ground := Go.Ground.data }], guard := none }) (by kernel_rfl) (fun KK hK => ?_)
            rw [if_pos (by kernel_rfl)]
            refine wp_app (t := 61) (.tmp 32) (.tmp 39) (by rfl) (by rfl) (by rfl) (by rfl) RUN ?_
            refine hK.out _ _ (trivial) ?_
            clear hK KK
            try simp only [List.getElem_toArray, List.getElem_cons_zero, List.getElem_cons_succ, Act.put, List.setIfInBounds_toArray, List.set_cons_zero, List.set_cons_succ]
            refine seq_take (o := { dst := some 5, op := Go.Op.assign (Go.Operand.tmp 40), type := 61, pos := "code.go:14", after := #[{ on := 8, ground := Go.Ground.data }, { on := 8, ground := Go.Ground.chain }, { on := 0, ground := Go.Ground.phase }, { on := 1, ground := Go.Ground.phase }, { on := 2, ground := Go.Ground.phase }, { on := 3, ground := Go.Ground.phase }, { on := 4, ground := Go.Ground.phase }, { on := 5, ground := Go.Ground.phase }, { on := 6, ground := Go.Ground.phase }, { on := 7, ground := Go.Ground.phase }, { on := 8, ground := Go.Ground.phase }], guard := none }) (v := .slice a' (n + 3) c') (by kernel_rfl) (fun _ _ _ h => h) (Or.inl ⟨by kernel_rfl, fun W hW => by go_simp⟩) ?_
            simp only [List.getElem_toArray, List.getElem_cons_zero, List.getElem_cons_succ, Act.put, List.setIfInBounds_toArray, List.set_cons_zero, List.set_cons_succ]
            show (Exit.then _ (fun _ _ _ => True)) .normal _ _
            go_wp2
            go_roundw
            case rel => exact ⟨i + 1, a', n + 3, c', _, by omega, by omega, by go_num, rfl, HX.out, OX.out, BX.out⟩
            case measure => simp [intOf]; omega
        | false =>
          have EC : Hid (ec false b = [37, hd (b / 16), hd (b % 16)]) := (by unfold ec asB; rw [hp]; rfl : ec false b = [37, hd (b / 16), hd (b % 16)])
          clear hp
          have HX : Hid (out ++ [37, hd (b / 16), hd (b % 16)] = enc false ((bl s).take (i + 1))) := (by rw [EX.out, EC.out] : out ++ [37, hd (b / 16), hd (b % 16)] = enc false ((bl s).take (i + 1)))
          have q16 : b / 16 < 16 := by omega
          have r16 : b % 16 < 16 := by omega
          obtain ⟨wd, HWD⟩ : ∃ q, Hid (wr.drew = q) := ⟨_, rfl⟩
          have BD : Hid (Below w.heap.size w wd) := by rw [← HWD.out]; exact HB.out.drew
          have OD : Hid (Own wd w.heap.size a n c out) := by rw [← HWD.out]; exact HO.out.block (fun _ _ => rfl)
          obtain ⟨a', c', w', run, own, gr⟩ := app_three (x := 37) OD.out (by omega) (hd_lt q16) (hd_lt r16) (by omega) BD.out.size
          have RUN : Hid ((Builtin.append_ #[61, 61] 61 #[.slice a n c, .slice (some ⟨wd.heap.size, 0, none⟩) 3 3]).run Tryd.prog (wd.alloc (.cells #[.int .u8 37, .int .u8 (hd (b / 16) : Nat), .int .u8 (hd (b % 16) : Nat)] 5)) = .ok (.slice a' (n + 3) c') w') := run
          have OX : Hid (Own w' w.heap.size a' (n + 3) c' (out ++ [37, hd (b / 16), hd (b % 16)])) := own
          have BX : Hid (Below w.heap.size w w') := (BD.out.alloc BD.out.size _).grown gr (BD.out.alloc BD.out.size _).size (fun q e => (OD.out.ge q e).1)
          have I1 : ∀ W, (Instr.index 9 (.string ⟨#[48, 49, 50, 51, 52, 53, 54, 55, 56, 57, 65, 66, 67, 68, 69, 70]⟩) (.int .u8 (IntKind.u8.wrap ((b : Int) / 16)))).run Tryd.prog W = .ok (.int .u8 (hd (b / 16) : Nat)) W := fun W => by
            rw [← dgs_at _ q16]
            exact sb_ix8 DGS (b / 16) _ (by rw [IntKind.wrap_u8']; omega) q16 W
          have I2 : ∀ W, (Instr.index 9 (.string ⟨#[48, 49, 50, 51, 52, 53, 54, 55, 56, 57, 65, 66, 67, 68, 69, 70]⟩) (.int .u8 ((b : Int).tmod 16))).run Tryd.prog W = .ok (.int .u8 (hd (b % 16) : Nat)) W := fun W => by
            rw [← dgs_at _ r16]
            exact sb_ix8 DGS (b % 16) _ (by rw [Int.tmod_eq_emod_of_nonneg (by omega)]; omega) r16 W
          clear run own gr EX EC
          go_upto_region 8 with (go_at_call 31; refine (isPlain_n b b8 _).mono ?_; rintro e w1 ⟨rfl, h1⟩; rw [h1, PL.out]; clear h1)
          refine wp_region_seq (C := fun W => True) [(0, false), (1, false), (2, false), (3, false), (4, false), (5, false), (6, false), (7, true), (8, true), (9, false)] (by kernel_rfl) (by kernel_rfl) (trivial) ?_
          refine seq_take (o := { dst := some 32, op := Go.Op.move (Go.Operand.tmp 5), type := 61, pos := "code.go:14", after := #[], guard := none }) (v := .slice a n c) (by kernel_rfl) (fun _ _ _ h => h) (Or.inl ⟨by kernel_rfl, fun W hW => by go_simp⟩) ?_
          simp only [List.getElem_toArray, List.getElem_cons_zero, List.getElem_cons_succ, Act.put, List.setIfInBounds_toArray, List.set_cons_zero, List.set_cons_succ]
          refine seq_take (o := { dst := some 33, op := Go.Op.move (Go.Operand.tmp 7), type := 5, pos := "code.go:14", after := #[], guard := none }) (v := .int .u8 (b : Int)) (by kernel_rfl) (fun _ _ _ h => h) (Or.inl ⟨by kernel_rfl, fun W hW => by go_simp⟩) ?_
          simp only [List.getElem_toArray, List.getElem_cons_zero, List.getElem_cons_succ, Act.put, List.setIfInBounds_toArray, List.set_cons_zero, List.set_cons_succ]
          refine seq_take (o := { dst := some 34, op := Go.Op.binOp Go.BinOp.quo 5 (Go.Operand.tmp 33) (Go.Operand.const (Go.Value.int Go.IntKind.u8 16)) 5, type := 5, pos := "code.go:14", after := #[{ on := 1, ground := Go.Ground.data }], guard := none }) (v := .int .u8 (IntKind.u8.wrap ((b : Int) / 16))) (by kernel_rfl) (fun _ _ _ h => h) (Or.inl ⟨by kernel_rfl, fun W hW => by go_simp⟩) ?_
          simp only [List.getElem_toArray, List.getElem_cons_zero, List.getElem_cons_succ, Act.put, List.setIfInBounds_toArray, List.set_cons_zero, List.set_cons_succ]
          refine seq_take (o := { dst := some 35, op := Go.Op.index 9 (Go.Operand.const (Go.Value.string { data := #[48, 49, 50, 51, 52, 53, 54, 55, 56, 57, 65, 66, 67, 68, 69, 70] })) (Go.Operand.tmp 34), type := 5, pos := "code.go:14", after := #[{ on := 2, ground := Go.Ground.data }], guard := none }) (v := .int .u8 (hd (b / 16) : Nat)) (by kernel_rfl) (fun _ _ _ h => h) (Or.inl ⟨by kernel_rfl, fun W hW => by go_simp⟩) ?_
          simp only [List.getElem_toArray, List.getElem_cons_zero, List.getElem_cons_succ, Act.put, List.setIfInBounds_toArray, List.set_cons_zero, List.set_cons_succ]
          refine seq_take (o := { dst := some 36, op := Go.Op.move (Go.Operand.tmp 7), type := 5, pos := "code.go:14", after := #[], guard := none }) (v := .int .u8 (b : Int)) (by kernel_rfl) (fun _ _ _ h => h) (Or.inl ⟨by kernel_rfl, fun W hW => by go_simp⟩) ?_
          simp only [List.getElem_toArray, List.getElem_cons_zero, List.getElem_cons_succ, Act.put, List.setIfInBounds_toArray, List.set_cons_zero, List.set_cons_succ]
          refine seq_take (o := { dst := some 37, op := Go.Op.binOp Go.BinOp.rem 5 (Go.Operand.tmp 36) (Go.Operand.const (Go.Value.int Go.IntKind.u8 16)) 5, type := 5, pos := "code.go:14", after := #[{ on := 4, ground := Go.Ground.data }], guard := none }) (v := .int .u8 ((b : Int).tmod 16)) (by kernel_rfl) (fun _ _ _ h => h) (Or.inl ⟨by kernel_rfl, fun W hW => by go_simp⟩) ?_
          simp only [List.getElem_toArray, List.getElem_cons_zero, List.getElem_cons_succ, Act.put, List.setIfInBounds_toArray, List.set_cons_zero, List.set_cons_succ]
          refine seq_take (o := { dst := some 38, op := Go.Op.index 9 (Go.Operand.const (Go.Value.string { data := #[48, 49, 50, 51, 52, 53, 54, 55, 56, 57, 65, 66, 67, 68, 69, 70] })) (Go.Operand.tmp 37), type := 5, pos := "code.go:14", after := #[{ on := 5, ground := Go.Ground.data }], guard := none }) (v := .int .u8 (hd (b % 16) : Nat)) (by kernel_rfl) (fun _ _ _ h => h) (Or.inl ⟨by kernel_rfl, fun W hW => by go_simp⟩) ?_
          simp only [List.getElem_toArray, List.getElem_cons_zero, List.getElem_cons_succ, Act.put, List.setIfInBounds_toArray, List.set_cons_zero, List.set_cons_succ]
          refine seq_call (o := { dst := some 39, op := Go.Op.buildSlice 61 3 #[(0, Go.Operand.const (Go.Value.int Go.IntKind.u8 37)), (1, Go.Operand.tmp 35), (2, Go.Operand.tmp 38)], type := 61, pos := "code.go:14", after := #[{ on := 3, ground := Go.Ground.data }, { on := 6, ground := Go.Ground.data }], guard := none }) (by kernel_rfl) (fun KK hK => ?_)
          rw [if_pos (by kernel_rfl)]
          rw [show (wr.drew) = wd from HWD.out]
          go_simp
          go_wp2
          refine hK.out _ _ (trivial) ?_
          clear hK KK
          try simp only [List.getElem_toArray, List.getElem_cons_zero, List.getElem_cons_succ, Act.put, List.setIfInBounds_toArray, List.set_cons_zero, List.set_cons_succ]
          refine seq_call (o := { dst := some 40, op := Go.Op.call { callee := Go.Callee.builtin Go.Builtin.append, args := #[Go.Operand.tmp 32, Go.Operand.tmp 39], argTypes := #[61, 61] }, type := 61, pos := "code.go:14", after := #[{ on := 0, ground := Go.Ground.data }, { on := 7, ground := Go.Ground.data }], guard := none }) (by kernel_rfl) (fun KK hK => ?_)
          rw [if_pos (by kernel_rfl)]
          refine wp_app (t := 61) (.tmp 32) (.tmp 39) (by rfl) (by rfl) (by rfl) (by rfl) RUN ?_
          refine hK.out _ _ (trivial) ?_
          clear hK KK
          try simp only [List.getElem_toArray, List.getElem_cons_zero, List.getElem_cons_succ, Act.put, List.setIfInBounds_toArray, List.set_cons_zero, List.set_cons_succ]
          refine seq_take (o := { dst := some 5, op := Go.Op.assign (Go.Operand.tmp 40), type := 61, pos := "code.go:14", after := #[{ on := 8, ground := Go.Ground.data }, { on := 8, ground := Go.Ground.chain }, { on := 0, ground := Go.Ground.phase }, { on := 1, ground := Go.Ground.phase }, { on := 2, ground := Go.Ground.phase }, { on := 3, ground := Go.Ground.phase }, { on := 4, ground := Go.Ground.phase }, { on := 5, ground := Go.Ground.phase }, { on := 6, ground := Go.Ground.phase }, { on := 7, ground := Go.Ground.phase }, { on := 8, ground := Go.Ground.phase }], guard := none }) (v := .slice a' (n + 3) c') (by kernel_rfl) (fun _ _ _ h => h) (Or.inl ⟨by kernel_rfl, fun W hW => by go_simp⟩) ?_
          simp only [List.getElem_toArray, List.getElem_cons_zero, List.getElem_cons_succ, Act.put, List.setIfInBounds_toArray, List.set_cons_zero, List.set_cons_succ]
          show (Exit.then _ (fun _ _ _ => True)) .normal _ _
          go_wp2
          go_roundw
          case rel => exact ⟨i + 1, a', n + 3, c', _, by omega, by omega, by go_num, rfl, HX.out, OX.out, BX.out⟩
          case measure => simp [intOf]; omega
    · have i1 : ¬ ((i : Int) < (s.size : Int)) := by omega
      obtain rfl : i = s.size := by omega
      have EV : Hid (encS sl s = spell out) := by
        have h := HE.out
        rw [List.take_of_length_le (by rw [bl_len]; exact Nat.le_refl _)] at h
        exact (by unfold encS; rw [h] : encS sl s = spell out)
      have CV := conv_n (k := c) (show Hid _ from HO.out.sln (by omega))
      go_wp2
      go_ret
      rw [EV.out]
      exact ⟨rfl, HB.out⟩
end Go.Proofs.YtalagagnolhppaaDoor
