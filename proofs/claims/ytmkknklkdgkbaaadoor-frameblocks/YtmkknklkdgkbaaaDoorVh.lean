/- What Seal and Open do, for all bytes; bytes.Equal. -/
import Derived.Test.YtmkknklkdgkbaaaDoorVg
import Derived.Test.YtmkknklkdgkbaaaDoorVn
namespace Go.Proofs.YtmkknklkdgkbaaaDoor
open Go.ChangeShapes Go.WideShapes Go.ChangeAt Go.RowKit
set_option maxRecDepth 20000
set_option linter.unusedVariables false
set_option linter.unusedSimpArgs false
theorem make_room4 (n : Nat) (h : n + 4 ≤ 281474976710656) (w : World) : (Instr.makeSlice 26 (.int .i64 0) (.int .i64 ((n : Int) + 4))).run Tryd.prog w = .ok (.slice (some ⟨w.heap.size, 0, none⟩) 0 (n + 4)) (w.alloc (.cells (madeCells #[.int .u8 0] (n + 4)) 5)) := by
  obtain ⟨i, hi, hz0, hz1, hz2⟩ := info_parts info5
  have hr := run_make (P := Tryd.prog) w 26 5 i (.int .u8 0) Tryd.underlying26 hi hz0 .i64 .i64 0 ((n : Int) + 4) (by omega) (by omega) (by rw [hz2]; omega) (by omega)
  rw [hz1] at hr
  have e : ((n : Int) + 4).toNat = n + 4 := by omega
  rw [e] at hr
  simpa [Value.cells] using hr
abbrev four (a b c d : Nat) : Obj := .cells #[.int .u8 (a : Int), .int .u8 (b : Int), .int .u8 (c : Int), .int .u8 (d : Int)] 5
set_option maxHeartbeats 1000000 in
theorem seal_n {a : Option Addr} {n k : Nat} {l : List Nat} {w : World} (h : Hid (Sln w a n l)) (hk : Hid (a = none → k = 0)) :
    Calls Tryd.prog 49 #[.slice a n k] w fun e w' => ∃ g N, e = .returned (.slice (some ⟨g, 0, none⟩) N N) ∧ Hid (N = n + 4 ∧ g = w.heap.size ∧ Blk w' g (sealL l) ∧ Below w.heap.size w w') := by
  have m := h.out.sli.2.1
  have e := h.out.len
  rw [← e] at m
  have mk := make_room4 n (by omega)
  have hb0 : Below w.heap.size w (w.alloc (.cells (madeCells #[.int .u8 0] (n + 4)) 5)) := (Below.refl _ _).alloc (Nat.le_refl _) _
  have own0 : (w.alloc (.cells (madeCells #[.int .u8 0] (n + 4)) 5)).ownsRow w.heap.size 5 1 (.slice (some ⟨w.heap.size, 0, none⟩) 0 (n + 4)) 0 [] := World.ownsRow_made w _ (n + 4) (Nat.le_refl _) (by unfold maxLen; omega) (by simp [size_madeCells])
  obtain ⟨w1, ap1, own1, gr1⟩ := app_fits own0 (h.out.below hb0) hk.out (by omega)
  rw [Nat.zero_add] at ap1 own1
  have hb1 : Below w.heap.size w w1 := hb0.grown gr1 (by simp) (fun k e => by simp at e; omega)
  obtain ⟨s, Hs⟩ : ∃ s, Hid (fsum l = s) := ⟨_, rfl⟩
  have hs : s < 4294967296 := by rw [← Hs.out]; exact fsum_lt l
  obtain ⟨b3, H3⟩ : ∃ b3, b3 = s / 16777216 := ⟨_, rfl⟩
  obtain ⟨q2, H2⟩ : ∃ q2, q2 = s / 65536 := ⟨_, rfl⟩
  obtain ⟨b2, H2'⟩ : ∃ b2, b2 = q2 % 256 := ⟨_, rfl⟩
  obtain ⟨q1, H1⟩ : ∃ q1, q1 = s / 256 := ⟨_, rfl⟩
  obtain ⟨b1, H1'⟩ : ∃ b1, b1 = q1 % 256 := ⟨_, rfl⟩
  obtain ⟨b0, H0⟩ : ∃ b0, b0 = s % 256 := ⟨_, rfl⟩
  have e3 : (s : Int) / 16777216 = (b3 : Int) := by omega
  have e2 : (s : Int) / 65536 = (q2 : Int) := by omega
  have e2' : (q2 : Int) % 256 = (b2 : Int) := by omega
  have e1 : (s : Int) / 256 = (q1 : Int) := by omega
  have e1' : (q1 : Int) % 256 = (b1 : Int) := by omega
  have e0 : (s : Int) % 256 = (b0 : Int) := by omega
  have x3 : b3 < 256 := by omega
  have x2 : b2 < 256 := by omega
  have x1 : b1 < 256 := by omega
  have x0 : b0 < 256 := by omega
  have y2 : q2 < 65536 := by omega
  have y1 : q1 < 16777216 := by omega
  have EQ : Hid (be4 s = [b3, b2, b1, b0]) := by
    show be4 s = _
    unfold be4
    rw [H2', H1', H3, H2, H1, H0, Nat.mod_eq_of_lt (a := s / 16777216) (by omega)]
  have own1' := own1.alloc (four b3 b2 b1 b0)
  have hb2 : Below w.heap.size w (w1.alloc (four b3 b2 b1 b0)) := hb1.alloc hb1.size _
  have bm : Blk (w1.alloc (four b3 b2 b1 b0)) w1.heap.size [b3, b2, b1, b0] := by
    show (w1.heap.push _)[w1.heap.size]? = _
    simp [bv]
  have sm := bm.sln (by simp; omega) (by simp)
  obtain ⟨w2, ap2, own2, gr2⟩ := app_fits (c := 4) own1' sm (by simp) (by simp)
  have hb3 : Below w.heap.size w w2 := hb2.grown gr2 hb2.size (fun k e => by simp at e; omega)
  have bf : Blk w2 w.heap.size (sealL l) := by
    have e2 : ([] ++ l.map bv ++ [b3, b2, b1, b0].map bv) = (sealL l).map bv := by rw [sealL, Hs.out, EQ.out]; simp
    rw [e2] at own2
    exact own_full own2
  have B3 : Hid (Below w.heap.size w w2) := hb3
  have B1 : Hid (Below w.heap.size w w1) := hb1
  have BF : Hid (Blk w2 w.heap.size (sealL l)) := bf
  have S1 : Hid (Sln w1 a n l) := h.out.below hb1
  have AP1 : Hid ((Builtin.append_ #[26, 26] 26 #[.slice (some ⟨w.heap.size, 0, none⟩) 0 (n + 4), .slice a n k]).run Tryd.prog (w.alloc (.cells (madeCells #[.int .u8 0] (n + 4)) 5)) = .ok (.slice (some ⟨w.heap.size, 0, none⟩) n (n + 4)) w1) := ap1
  have AP2 : Hid ((Builtin.append_ #[26, 26] 26 #[.slice (some ⟨w.heap.size, 0, none⟩) n (n + 4), .slice (some ⟨w1.heap.size, 0, none⟩) 4 4]).run Tryd.prog (w1.alloc (four b3 b2 b1 b0)) = .ok (.slice (some ⟨w.heap.size, 0, none⟩) (n + 4) (n + 4)) w2) := ap2
  clear bf hb3 gr2 own2 sm bm hb2 own1' hb1 own1 gr1 own0 hb0 e ap1 ap2 H3 H2 H2' H1 H1' H0
  go_enter Tryd.func49, Tryd.ntmps49
  go_wp2_with (first
    | (at_builtin; refine wpList_app (by rfl) (.tmp 9) (.tmp 10) (by rfl) (by rfl) (by rfl) (by rfl) AP1 ?_)
    | (at_builtin; refine wpList_app (by rfl) (.tmp 14) (.tmp 26) (by rfl) (by rfl) (by rfl) (by rfl) AP2 ?_)
    | (go_at_call 63; refine (sum_n S1).mono ?_; rintro e w9 ⟨rfl, h9⟩; rw [h9, Hs.out]; clear h9))
  go_ret
  exact ⟨_, n + 4, rfl, rfl, rfl, BF.out, B3.out⟩
theorem equal_n {w : World} {a b : Option Addr} {n m c d : Nat} {l k : List Nat} (h1 : Hid (Sln w a n l)) (h2 : Hid (Sln w b m k)) :
    Calls Tryd.prog 68 #[.slice a n c, .slice b m d] w fun e w' => e = .returned (.bool (decide (l = k))) ∧ w' = w := by
  have c1 := conv_n (k := c) h1
  have c2 := conv_n (k := d) h2
  have E := spell_beq h1.out.lt h2.out.lt
  go_enter Tryd.func68, Tryd.ntmps68
  go_wp2
  go_ret
  exact ⟨rfl, rfl⟩
/- Open where the sum is wrong -/
set_option maxHeartbeats 1000000 in
theorem open_bad {w : World} {a : Option Addr} {n c M : Nat} {l : List Nat} {E : Nat → Addr} (h : Hid (Sln w a n l)) (hc : Hid (a = none → c = 0)) (hnc : n ≤ c) (hn : 4 ≤ n) (hbad : Hid (sealL (l.take (n - 4)) ≠ l)) (hE : Hid (Sent w M E)) (hM : 3 ≤ M) :
    Calls Tryd.prog 57 #[.slice a n c] w fun e w' => e = .returned (.tuple #[.slice none 0 0, .iface 130 (.pointer (some (E 2)))]) ∧ Hid (Below w.heap.size w w') := by
  have m := h.out.sli.2.1
  have e := h.out.len
  rw [← e] at m
  obtain ⟨q, hq⟩ : ∃ q, n = q + 4 := ⟨n - 4, by omega⟩
  subst hq
  have eq4 : q + 4 - 4 = q := by omega
  have S1 : Hid (Sln w a q (l.take q)) := h.out.take (by omega)
  have NE : Hid (decide (sealL (l.take q) = l) = false) := by have := hbad.out; rw [eq4] at this; show decide _ = false; simpa using this
  clear e hbad
  go_enter Tryd.func57, Tryd.ntmps57
  go_wp2_with (first
    | (go_at_call 49; refine (seal_n S1 hc).mono ?_; rintro e w1 ⟨g, N, rfl, H1⟩
       have L1 : Hid ((sealL (l.take q)).length ≤ 140737488352256) := by have := S1.out.len; rw [Hid, seal_len, ← this]; omega
       have T1 : Hid (Sln w1 (some ⟨g, 0, none⟩) N (sealL (l.take q))) := by
         have := H1.out.2.2.1.sln (seal_bytes S1.out.lt) L1.out
         rw [seal_len, ← S1.out.len, ← H1.out.1] at this
         exact this
       have T2 : Hid (Sln w1 a (q + 4) l) := h.out.below H1.out.2.2.2
       have ce := (hE.out.below H1.out.2.2.2).c 2 (by omega)
       unfold er at ce
       have FIN : Hid (∀ j, Below w.heap.size w (w1.drewN j)) := fun j => below_drewN H1.out.2.2.2 j)
    | (go_at_call 68; refine (equal_n T1 T2).mono ?_; rintro e w9 ⟨rfl, h9⟩; rw [h9, NE.out]; clear h9))
  go_quiet (fail)
  go_wp2
  go_ret2
  exact ⟨rfl, FIN.out _⟩
end Go.Proofs.YtmkknklkdgkbaaaDoor
