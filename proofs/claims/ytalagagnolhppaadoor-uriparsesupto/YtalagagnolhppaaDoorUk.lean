/- The document's Decode: for all texts. -/
import Derived.Test.YtalagagnolhppaaDoorUd
import Derived.Laws.BitsLemmas
namespace Go.Proofs.YtalagagnolhppaaDoor
open Go.ChangeShapes Go.WideShapes Go.ChangeAt Go.RowKit
set_option maxRecDepth 20000
set_option linter.unusedVariables false
set_option linter.unusedSimpArgs false
def strY : Value → Nat
  | .string s => s.size
  | _ => 0
theorem wr2_short {l : List Nat} (h : ¬ 2 ≤ l.length) : wr2 l = none := by
  match l with
  | [] => rfl
  | [a] => rfl
  | a :: b :: r => simp at h
theorem wr2_none1 {a b : Nat} {r : List Nat} (h : hx a = none) : wr2 (a :: b :: r) = none := by rw [wr2, h]
theorem wr2_none2 {a b : Nat} {r : List Nat} (h : hx b = none) : wr2 (a :: b :: r) = none := by
  rw [wr2, h]
  cases hx a <;> rfl
theorem wr2_some {a b x y : Nat} {r : List Nat} (h : hx a = some x) (h2 : hx b = some y) : wr2 (a :: b :: r) = some (16 * x + y) := by rw [wr2, h, h2]
set_option maxHeartbeats 8000000 in
theorem refdecode_n (s : ByteArray) (hs : s.size ≤ 140737488354304) (w : World) : Calls Tryd.prog 19 #[.string s] w fun e w' => DecEnd (dcS s) e ∧ Hid (Below w.heap.size w w') := by
  obtain ⟨g0, G0⟩ : ∃ q, Hid (w.heap.size = q) := ⟨_, rfl⟩
  obtain ⟨w0, H0⟩ : ∃ q, Hid (w.alloc (.cells #[] 5) = q) := ⟨_, rfl⟩
  have B0 : Hid (Below w.heap.size w w0) := by rw [← H0.out]; exact alloc1 _ _
  have O0 : Hid (Own w0 w.heap.size (some ⟨g0, 0, none⟩) 0 0 []) := by
    rw [← H0.out, ← G0.out]
    exact ⟨rfl, ⟨rfl, .inr ⟨w.heap.size, 0, #[], rfl, Nat.le_refl _, heap_alloc_new w _, Nat.le_refl _, Nat.zero_le _, rfl, rfl⟩⟩, by simp⟩
  go_enter Tryd.func19, Tryd.ntmps19
  go_wp2
  rw [H0.out, G0.out]
  go_loopw [0, 4] (fun ts ta wr => ∃ (r : ByteArray) (a : Option Addr) (n c : Nat) (out : List Nat), n + r.size ≤ s.size ∧ ts = .string r ∧ ta = .slice a n c ∧ Hid (DcI (bl s) (bl r) out) ∧ Hid (Own wr w.heap.size a n c out) ∧ Hid (Below w.heap.size w wr)) (fun ts _ _ => strY ts)
  case atStart => exact ⟨s, _, 0, 0, [], by omega, rfl, rfl, DcI.zero _, O0.out, B0.out⟩
  case round =>
    clear O0 B0 H0
    obtain ⟨r, a, n, c, out, hn, rfl, rfl, HD, HO, HB⟩ := hrel
    by_cases hlt : 0 < r.size
    · have i1 : (0 : Int) < (r.size : Int) := by omega
      have X0 := fun W => sb_ix r 0 0 rfl hlt W
      have b8 := sb_lt r 0
      have HD2 : Hid (DcI (bl s) (sb r 0 :: (bl r).drop 1) out) := by rw [← bl_cons hlt, List.drop_zero]; exact HD.out
      obtain ⟨b, Hb⟩ : ∃ q, Hid (sb r 0 = q) := ⟨_, rfl⟩
      rw [Hb.out] at X0 b8 HD2
      clear HD
      by_cases b37 : b = 37
      · subst b37
        by_cases h3 : 3 ≤ r.size
        · have i3 : ¬ ((r.size : Int) < 3) := by omega
          have X1 := fun W => sb_ix r 1 1 rfl (by omega) W
          have X2 := fun W => sb_ix r 2 2 rfl (by omega) W
          have x8 := sb_lt r 1
          have y8 := sb_lt r 2
          have BT : Hid ((bl r).drop 1 = sb r 1 :: sb r 2 :: (bl r).drop 3) := (by rw [bl_cons (i := 1) (by omega), bl_cons (i := 2) (by omega)] : (bl r).drop 1 = sb r 1 :: sb r 2 :: (bl r).drop 3)
          obtain ⟨x, Hx⟩ : ∃ q, Hid (sb r 1 = q) := ⟨_, rfl⟩
          obtain ⟨y, Hy⟩ : ∃ q, Hid (sb r 2 = q) := ⟨_, rfl⟩
          rw [Hx.out] at X1 x8 BT
          rw [Hy.out] at X2 y8 BT
          cases hx1 : hx x with
          | none =>
            have EV : Hid (dcS s = none) := (by unfold dcS; rw [HD2.out.none (dst_none (by rw [BT.out]; exact wr2_none1 hx1))]; rfl : dcS s = none)
            go_wp2_with (go_at_call 32; refine (value_n _ (by assumption) _).mono ?_; rintro e w1 ⟨rfl, h2⟩; rw [h2]; clear h2; simp only [hx1, valI])
            go_ret2
            rw [EV.out]
            exact ⟨rfl, HB.out⟩
          | some u =>
            have u16 := hx_lt hx1
            cases hx2 : hx y with
            | none =>
              have EV : Hid (dcS s = none) := (by unfold dcS; rw [HD2.out.none (dst_none (by rw [BT.out]; exact wr2_none2 hx2))]; rfl : dcS s = none)
              go_wp2_with (go_at_call 32; refine (value_n _ (by assumption) _).mono ?_; rintro e w1 ⟨rfl, h2⟩; rw [h2]; clear h2; simp only [hx1, hx2, valI])
              go_ret2
              rw [EV.out]
              exact ⟨rfl, HB.out⟩
            | some v =>
              have v16 := hx_lt hx2
              have DS : Hid (dst (37 :: (bl r).drop 1) = some (16 * u + v, (bl r).drop 3)) := (by rw [dst_some (by rw [BT.out]; exact wr2_some hx1 hx2), List.drop_drop] : dst (37 :: (bl r).drop 1) = some (16 * u + v, (bl r).drop 3))
              go_upto_region 8 with (go_at_call 32; refine (value_n _ (by assumption) _).mono ?_; rintro e w1 ⟨rfl, h2⟩; rw [h2]; clear h2; simp only [hx1, hx2, valI])
              refine wp_region_seq (C := fun W => True) [(0, false), (1, false), (4, false), (5, false), (2, true), (3, false), (6, true), (7, false), (8, false), (9, false)] (by kernel_rfl) (by kernel_rfl) (trivial) ?_
              refine seq_take (o := { dst := some 32, op := Go.Op.move (Go.Operand.tmp 0), type := 9, pos := "ref.go:29", after := #[], guard := none }) (v := .string r) (by kernel_rfl) (fun _ _ _ h => h) (Or.inl ⟨by kernel_rfl, fun W hW => by go_simp⟩) ?_
              simp only [List.getElem_toArray, List.getElem_cons_zero, List.getElem_cons_succ, Act.put, List.setIfInBounds_toArray, List.set_cons_zero, List.set_cons_succ]
              refine seq_take (o := { dst := some 33, op := Go.Op.index 9 (Go.Operand.tmp 32) (Go.Operand.const (Go.Value.int Go.IntKind.i64 1)), type := 5, pos := "ref.go:29", after := #[{ on := 0, ground := Go.Ground.data }], guard := none }) (v := .int .u8 (x : Int)) (by kernel_rfl) (fun _ _ _ h => h) (Or.inl ⟨by kernel_rfl, fun W hW => by go_simp⟩) ?_
              simp only [List.getElem_toArray, List.getElem_cons_zero, List.getElem_cons_succ, Act.put, List.setIfInBounds_toArray, List.set_cons_zero, List.set_cons_succ]
              refine seq_take (o := { dst := some 36, op := Go.Op.move (Go.Operand.tmp 0), type := 9, pos := "ref.go:29", after := #[], guard := none }) (v := .string r) (by kernel_rfl) (fun _ _ _ h => h) (Or.inl ⟨by kernel_rfl, fun W hW => by go_simp⟩) ?_
              simp only [List.getElem_toArray, List.getElem_cons_zero, List.getElem_cons_succ, Act.put, List.setIfInBounds_toArray, List.set_cons_zero, List.set_cons_succ]
              refine seq_take (o := { dst := some 37, op := Go.Op.index 9 (Go.Operand.tmp 36) (Go.Operand.const (Go.Value.int Go.IntKind.i64 2)), type := 5, pos := "ref.go:29", after := #[{ on := 4, ground := Go.Ground.data }], guard := none }) (v := .int .u8 (y : Int)) (by kernel_rfl) (fun _ _ _ h => h) (Or.inl ⟨by kernel_rfl, fun W hW => by go_simp⟩) ?_
              simp only [List.getElem_toArray, List.getElem_cons_zero, List.getElem_cons_succ, Act.put, List.setIfInBounds_toArray, List.set_cons_zero, List.set_cons_succ]
              refine seq_call (o := { dst := some 34, op := Go.Op.call { callee := Go.Callee.value (Go.Operand.func 32), args := #[Go.Operand.tmp 33], argTypes := #[5] }, type := 3, pos := "ref.go:29", after := #[{ on := 1, ground := Go.Ground.data }], guard := none }) (by kernel_rfl) (fun KK hK => ?_)
              rw [if_pos (by kernel_rfl)]
              go_wp2_with (go_at_call 32; refine (value_n _ (by assumption) _).mono ?_; rintro e w1 ⟨rfl, h2⟩; rw [h2]; clear h2; simp only [hx1, hx2, valI])
              refine hK.out _ _ (trivial) ?_
              clear hK KK
              try simp only [List.getElem_toArray, List.getElem_cons_zero, List.getElem_cons_succ, Act.put, List.setIfInBounds_toArray, List.set_cons_zero, List.set_cons_succ]
              refine seq_take (o := { dst := some 35, op := Go.Op.binOp Go.BinOp.mul 3 (Go.Operand.const (Go.Value.int Go.IntKind.i64 16)) (Go.Operand.tmp 34) 3, type := 3, pos := "ref.go:29", after := #[{ on := 2, ground := Go.Ground.data }], guard := none }) (v := .int .i64 (16 * (u : Int))) (by kernel_rfl) (fun _ _ _ h => h) (Or.inl ⟨by kernel_rfl, fun W hW => by go_simp; rw [IntKind.wrap_i64]; omega⟩) ?_
              simp only [List.getElem_toArray, List.getElem_cons_zero, List.getElem_cons_succ, Act.put, List.setIfInBounds_toArray, List.set_cons_zero, List.set_cons_succ]
              refine seq_call (o := { dst := some 38, op := Go.Op.call { callee := Go.Callee.value (Go.Operand.func 32), args := #[Go.Operand.tmp 37], argTypes := #[5] }, type := 3, pos := "ref.go:29", after := #[{ on := 5, ground := Go.Ground.data }, { on := 2, ground := Go.Ground.chain }], guard := none }) (by kernel_rfl) (fun KK hK => ?_)
              rw [if_pos (by kernel_rfl)]
              go_wp2_with (go_at_call 32; refine (value_n _ (by assumption) _).mono ?_; rintro e w1 ⟨rfl, h2⟩; rw [h2]; clear h2; simp only [hx1, hx2, valI])
              refine hK.out _ _ (trivial) ?_
              clear hK KK
              try simp only [List.getElem_toArray, List.getElem_cons_zero, List.getElem_cons_succ, Act.put, List.setIfInBounds_toArray, List.set_cons_zero, List.set_cons_succ]
              refine seq_take (o := { dst := some 39, op := Go.Op.binOp Go.BinOp.add 3 (Go.Operand.tmp 35) (Go.Operand.tmp 38) 3, type := 3, pos := "ref.go:29", after := #[{ on := 3, ground := Go.Ground.data }, { on := 6, ground := Go.Ground.data }], guard := none }) (v := .int .i64 ((16 * u + v : Nat) : Int)) (by kernel_rfl) (fun _ _ _ h => h) (Or.inl ⟨by kernel_rfl, fun W hW => by go_simp; rw [IntKind.wrap_i64]; omega⟩) ?_
              simp only [List.getElem_toArray, List.getElem_cons_zero, List.getElem_cons_succ, Act.put, List.setIfInBounds_toArray, List.set_cons_zero, List.set_cons_succ]
              refine seq_take (o := { dst := some 5, op := Go.Op.assign (Go.Operand.tmp 39), type := 3, pos := "ref.go:29", after := #[{ on := 7, ground := Go.Ground.data }, { on := 6, ground := Go.Ground.chain }, { on := 0, ground := Go.Ground.phase }, { on := 1, ground := Go.Ground.phase }, { on := 2, ground := Go.Ground.phase }, { on := 3, ground := Go.Ground.phase }, { on := 4, ground := Go.Ground.phase }, { on := 5, ground := Go.Ground.phase }, { on := 6, ground := Go.Ground.phase }, { on := 7, ground := Go.Ground.phase }], guard := none }) (v := .int .i64 ((16 * u + v : Nat) : Int)) (by kernel_rfl) (fun _ _ _ h => h) (Or.inl ⟨by kernel_rfl, fun W hW => by go_simp⟩) ?_
              simp only [List.getElem_toArray, List.getElem_cons_zero, List.getElem_cons_succ, Act.put, List.setIfInBounds_toArray, List.set_cons_zero, List.set_cons_succ]
              refine seq_take (o := { dst := some 6, op := Go.Op.assign (Go.Operand.const (Go.Value.int Go.IntKind.i64 3)), type := 3, pos := "ref.go:29", after := #[{ on := 8, ground := Go.Ground.chain }, { on := 0, ground := Go.Ground.phase }, { on := 1, ground := Go.Ground.phase }, { on := 2, ground := Go.Ground.phase }, { on := 3, ground := Go.Ground.phase }, { on := 4, ground := Go.Ground.phase }, { on := 5, ground := Go.Ground.phase }, { on := 6, ground := Go.Ground.phase }, { on := 7, ground := Go.Ground.phase }, { on := 8, ground := Go.Ground.phase }], guard := none }) (v := .int .i64 3) (by kernel_rfl) (fun _ _ _ h => h) (Or.inl ⟨by kernel_rfl, fun W hW => by go_simp⟩) ?_
              simp only [List.getElem_toArray, List.getElem_cons_zero, List.getElem_cons_succ, Act.put, List.setIfInBounds_toArray, List.set_cons_zero, List.set_cons_succ]
              show (Exit.then _ (fun _ _ _ => True)) .normal _ _
              obtain ⟨z, Hz⟩ : ∃ q, Hid (16 * u + v = q) := ⟨_, rfl⟩
              have z8 : z < 256 := by have := Hz.out; omega
              rw [Hz.out] at DS ⊢
              obtain ⟨wd, HWD⟩ : ∃ q, Hid (wr.drew = q) := ⟨_, rfl⟩
              rw [show wr.drew = wd from HWD.out]
              have BD : Hid (Below w.heap.size w wd) := by rw [← HWD.out]; exact HB.out.drew
              have OD : Hid (Own wd w.heap.size a n c out) := by rw [← HWD.out]; exact HO.out.block (fun _ _ => rfl)
              clear hx1 hx2 X0 X1 X2 HWD
              by_cases g32 : 32 ≤ z
              · have t32 : ¬ ((z : Int) < 32) := by omega
                by_cases g126 : z ≤ 126
                · have t126 : ¬ ((126 : Int) < (z : Int)) := by omega
                  have HX : Hid (DcI (bl s) (bl (r.extract 3 r.size)) (out ++ [z])) := by rw [bl_tail]; exact HD2.out.step DS.out (decide_eq_true (by omega))
                  obtain ⟨a', c', w', run, own, gr, _⟩ := app_byte (x := z) OD.out (by omega) (by omega) BD.out.size
                  have RUN : Hid ((Builtin.append_ #[61, 61] 61 #[.slice a n c, .slice (some ⟨wd.heap.size, 0, none⟩) 1 1]).run Tryd.prog (wd.alloc (.cells #[.int .u8 (z : Int)] 5)) = .ok (.slice a' (n + 1) c') w') := run
                  have OX : Hid (Own w' w.heap.size a' (n + 1) c' (out ++ [z])) := own
                  have BX : Hid (Below w.heap.size w w') := BD.out.grown gr BD.out.size (fun q e => (OD.out.ge q e).1)
                  have EZ : (r.extract 3 r.size).size = r.size - 3 := by rw [ByteArray.size_extract]; omega
                  obtain ⟨r2, HR2⟩ : ∃ q, Hid (r.extract 3 r.size = q) := ⟨_, rfl⟩
                  rw [HR2.out] at HX EZ
                  have EZ : Hid (r2.size = r.size - 3) := EZ
                  clear run own gr HD2 DS
                  go_wp2_with (at_builtin; refine wpList_app (by rfl) (.tmp 46) (.tmp 49) (by rfl) (by rfl) (by rfl) (by rfl) RUN.out ?_)
                  rw [HR2.out]
                  go_roundw
                  case rel => exact ⟨r2, a', n + 1, c', _, by have := EZ.out; omega, rfl, rfl, HX.out, OX.out, BX.out⟩
                  case measure => have := EZ.out; show r2.size < r.size; omega
                · have t126 : (126 : Int) < (z : Int) := by omega
                  have EV : Hid (dcS s = none) := (by unfold dcS; rw [HD2.out.bad DS.out (decide_eq_false (by omega))]; rfl : dcS s = none)
                  go_wp2
                  go_ret2
                  rw [EV.out]
                  exact ⟨rfl, BD.out⟩
              · have t32 : (z : Int) < 32 := by omega
                have EV : Hid (dcS s = none) := (by unfold dcS; rw [HD2.out.bad DS.out (decide_eq_false (by omega))]; rfl : dcS s = none)
                go_wp2
                go_ret2
                rw [EV.out]
                exact ⟨rfl, BD.out⟩
        · have i3 : (r.size : Int) < 3 := by omega
          have EV : Hid (dcS s = none) := (by unfold dcS; rw [HD2.out.none (dst_none (wr2_short (by rw [List.length_drop, bl_len]; omega)))]; rfl : dcS s = none)
          go_wp2
          go_ret2
          rw [EV.out]
          exact ⟨rfl, HB.out⟩
      · have n37 : ¬ ((b : Int) = 37) := by omega
        have DS : Hid (dst (b :: (bl r).drop 1) = some (b, (bl r).drop 1)) := dst_plain b37 _
        have z8 := b8
        have BD := HB
        have OD := HO
        clear b37
        by_cases g32 : 32 ≤ b
        · have t32 : ¬ ((b : Int) < 32) := by omega
          by_cases g126 : b ≤ 126
          · have t126 : ¬ ((126 : Int) < (b : Int)) := by omega
            have HX : Hid (DcI (bl s) (bl (r.extract 1 r.size)) (out ++ [b])) := by rw [bl_tail]; exact HD2.out.step DS.out (decide_eq_true (by omega))
            obtain ⟨a', c', w', run, own, gr, _⟩ := app_byte (x := b) OD.out (by omega) (by omega) BD.out.size
            have RUN : Hid ((Builtin.append_ #[61, 61] 61 #[.slice a n c, .slice (some ⟨wr.heap.size, 0, none⟩) 1 1]).run Tryd.prog (wr.alloc (.cells #[.int .u8 (b : Int)] 5)) = .ok (.slice a' (n + 1) c') w') := run
            have OX : Hid (Own w' w.heap.size a' (n + 1) c' (out ++ [b])) := own
            have BX : Hid (Below w.heap.size w w') := BD.out.grown gr BD.out.size (fun q e => (OD.out.ge q e).1)
            have EZ : (r.extract 1 r.size).size = r.size - 1 := by rw [ByteArray.size_extract]; omega
            obtain ⟨r2, HR2⟩ : ∃ q, Hid (r.extract 1 r.size = q) := ⟨_, rfl⟩
            rw [HR2.out] at HX EZ
            have EZ : Hid (r2.size = r.size - 1) := EZ
            clear run own gr HD2 DS
            go_wp2_with (at_builtin; refine wpList_app (by rfl) (.tmp 46) (.tmp 49) (by rfl) (by rfl) (by rfl) (by rfl) RUN.out ?_)
            rw [HR2.out]
            go_roundw
            case rel => exact ⟨r2, a', n + 1, c', _, by have := EZ.out; omega, rfl, rfl, HX.out, OX.out, BX.out⟩
            case measure => have := EZ.out; show r2.size < r.size; omega
          · have t126 : (126 : Int) < (b : Int) := by omega
            have EV : Hid (dcS s = none) := (by unfold dcS; rw [HD2.out.bad DS.out (decide_eq_false (by omega))]; rfl : dcS s = none)
            go_wp2
            go_ret2
            rw [EV.out]
            exact ⟨rfl, BD.out⟩
        · have t32 : (b : Int) < 32 := by omega
          have EV : Hid (dcS s = none) := (by unfold dcS; rw [HD2.out.bad DS.out (decide_eq_false (by omega))]; rfl : dcS s = none)
          go_wp2
          go_ret2
          rw [EV.out]
          exact ⟨rfl, BD.out⟩
    · have i1 : ¬ ((0 : Int) < (r.size : Int)) := by omega
      have EV : Hid (dcS s = some (spell out)) := by
        have h := HD.out
        rw [bl_nil (s := r) |>.2 (by omega)] at h
        exact (by unfold dcS; rw [h.done]; rfl : dcS s = some (spell out))
      have CV := conv_n (k := c) (show Hid _ from HO.out.sln (by omega))
      go_wp2
      go_ret2
      rw [EV.out]
      exact ⟨rfl, HB.out⟩
end Go.Proofs.YtalagagnolhppaaDoor
