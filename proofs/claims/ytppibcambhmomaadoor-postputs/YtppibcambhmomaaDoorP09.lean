import Derived.Test.YtppibcambhmomaaDoorPp
import Derived.Test.YtppibcambhmomaaDoorP00
import Derived.Test.YtppibcambhmomaaDoorP08
import Derived.Deep.RegionHeld
namespace Go.Proofs.YtppibcambhmomaaDoor
set_option maxRecDepth 20000
open Go.ChangeShapes Go.WideShapes Go.ChangeAt Go.RowKit
theorem nil_cap27 {H : Type} {enc : TypeId × Value -> H} {W : World} {fuel : Nat} {a : Option Addr} {n k : Nat} {y : DataW H × List MemPlace} (hf : DataW.trod enc Tryd.prog W 0 (fun _ => true) true fuel 27 [.slice a n k] = some y) : a = none -> k = 0 := by
 rcases open_ints Tryd.underlying27 Tryd.underlying5 cells5 hf with ⟨hcs, _⟩ | ⟨x, l, c, zs, hcs, _⟩
 . simp at hcs
   exact fun _ => hcs.2.2
 . simp at hcs
   intro h
   rw [h] at hcs
   simp at hcs
end Go.Proofs.YtppibcambhmomaaDoor
namespace Go.Proofs.YtppibcambhmomaaDoor
open Go.ChangeShapes Go.WideShapes Go.ChangeAt Go.RowKit
set_option linter.unusedVariables false
set_option linter.unusedSimpArgs false
theorem u8_and127 (a : Nat) (ha : a < 256) : bits .and .u8 (a : Int) 127 = ((a % 128 : Nat) : Int) := by
 have := u8_and_nat a 127 ha (by omega)
 rw [and127] at this
 exact this
theorem i64_or_nat (a b : Nat) (ha : a < 9223372036854775808) (hb : b < 9223372036854775808) : bits .or .i64 (a : Int) (b : Int) = ((a ||| b : Nat) : Int) := by
 have h : a ||| b < 9223372036854775808 := Nat.or_lt_two_pow (n := 63) ha hb
 show IntKind.i64.wrap ((BitVec.ofInt 64 (a : Int) ||| BitVec.ofInt 64 (b : Int)).toNat : Int) = _
 rw [BitVec.toNat_or, ofInt_i64 a ha, ofInt_i64 b hb, IntKind.wrap_i64]
 omega
theorem p63 : (128 : Nat) ^ 9 = 9223372036854775808 := by decide
theorem pk {k : Nat} (hk : k <= 9) : (128 : Nat) ^ k <= 9223372036854775808 := by rw [<- p63]; exact Nat.pow_le_pow_right (by omega) hk
theorem grp {k y : Nat} (hk : k < 9) (hy : y < 128) : y * 128 ^ k < 9223372036854775808 := by
 have h1 : y * 128 ^ k < 128 * 128 ^ k := Nat.mul_lt_mul_of_pos_right hy (Nat.pow_pos (by omega))
 have h2 : 128 * 128 ^ k = 128 ^ (k + 1) := by rw [Nat.pow_succ, Nat.mul_comm]
 have h3 := pk (k := k + 1) (by omega)
 omega
theorem grp_wrap {k y : Nat} (hk : k < 9) (hy : y < 128) : wrap64 ((y : Int) * 2 ^ (7 * k)) = ((y * 128 ^ k : Nat) : Int) := by
 have e : (y : Int) * 2 ^ (7 * k) = ((y * 128 ^ k : Nat) : Int) := by
  rw [Int.natCast_mul, Int.natCast_pow, Int.pow_mul]
  rfl
 rw [e]
 have := grp hk hy
 unfold wrap64
 omega
theorem grp_or {k y acc : Nat} (hk : k < 9) (hy : y < 128) (ha : acc < 128 ^ k) : bits .or .i64 (acc : Int) ((y * 128 ^ k : Nat) : Int) = ((acc + y * 128 ^ k : Nat) : Int) := by
 have h1 := pk (k := k) (by omega)
 rw [i64_or_nat acc (y * 128 ^ k) (by omega) (grp hk hy)]
 have e : (128 : Nat) ^ k = 2 ^ (7 * k) := by rw [Nat.pow_mul]
 have := nat_join (7 * k) (y * 128 ^ k) acc (by rw [e, Nat.mul_mod_left]) (by rw [<- e]; exact ha)
 rw [Nat.or_comm, this, Nat.add_comm]
theorem grp_lt {k y acc : Nat} (hy : y < 128) (ha : acc < 128 ^ k) : acc + y * 128 ^ k < 128 ^ (k + 1) := by
 have h1 : y * 128 ^ k <= 127 * 128 ^ k := Nat.mul_le_mul_right _ (by omega)
 rw [Nat.pow_succ]
 omega
theorem nat_end {l : List Nat} {k acc : Nat} (hk : k < 9) (hl : k < l.length) (hx : l.getD k 0 < 128) : nat (9 - k) l k acc = (acc + l.getD k 0 % 128 * 128 ^ k, k + 1, decide (k = 0) || decide (0 < l.getD k 0)) := by
 rw [show 9 - k = 8 - k + 1 by omega, nat, if_pos hl, if_pos hx]
theorem nat_more {l : List Nat} {k acc : Nat} (hk : k < 9) (hl : k < l.length) (hx : ¬ l.getD k 0 < 128) : nat (9 - k) l k acc = nat (9 - (k + 1)) l (k + 1) (acc + l.getD k 0 % 128 * 128 ^ k) := by
 rw [show 9 - k = (9 - (k + 1)) + 1 by omega, nat, if_pos hl, if_neg hx]
theorem nat_off {l : List Nat} {k acc : Nat} (h : ¬ (k < l.length /\ k < 9)) : nat (9 - k) l k acc = (0, 0, false) := by
 by_cases hk : k < 9
 . rw [show 9 - k = (8 - k) + 1 by omega, nat, if_neg (fun hl => h ⟨hl, hk⟩)]
 . rw [show 9 - k = 0 by omega, nat]
set_option maxRecDepth 20000 in
set_option maxHeartbeats 2000000 in
theorem numberAt_n {w : World} {a : Option Addr} {n c : Nat} {l : List Nat} {N S : Nat} {ok : Bool} (hS : Hid (Sln w a n l)) (hR : Hid (nat 9 l 0 0 = (N, S, ok))) :
  Calls Tryd.prog 85 #[.slice a n c] w fun e w' => e = .returned (.tuple #[.int .i64 (N : Int),.int .i64 (S : Int),.bool ok]) /\ Hid (∃ j, w' = w.drewN j) := by
 have m := hS.out.sli.2.1
 have e := hS.out.len
 rw [<- e] at m
 have hE : Hid (n = l.length) := e
 clear e
 have F0 : Hid (∃ j, w = w.drewN j) := ⟨0, rfl⟩
 go_enter Tryd.func85, Tryd.ntmps85
 go_wp2
 all_goals
  go_loop [2, 9] (fun tn ti => ∃ k acc : Nat, k <= 9 /\ k <= n /\ Hid (acc < 128 ^ k /\ nat (9 - k) l k acc = (N, S, ok)) /\ tn = .int .i64 acc /\ ti = .int .i64 k) (fun _ ti => 9 - (intOf ti).toNat)
  case atStart => exact ⟨0, 0, by omega, by omega, ⟨by simp, hR.out⟩, rfl, rfl⟩
  case round =>
   obtain ⟨k, acc, hk9, hkn, HA, rfl, rfl⟩ := hrel
   by_cases hlt : k < n /\ k < 9
   . have hlt1 := hlt.1
     have hlt2 := hlt.2
     obtain ⟨b, off, rfl, c1⟩ := row_at hS.out hlt1
     have hl1 : k < l.length := by rw [<- hE.out]; exact hlt1
     have TE := @nat_end l k acc hlt2 hl1
     have TM := @nat_more l k acc hlt2 hl1
     obtain ⟨x, Hx⟩ := nm (l.getD k 0)
     have hx : x < 256 := by rw [<- Hx.out]; exact getD_lt hS.out.lt k
     rw [Hx.out] at c1 TE TM
     obtain ⟨y, Hy⟩ := nm (x % 128)
     have hy : y < 128 := by rw [<- Hy.out]; omega
     have e1 : bits .and .u8 (x : Int) 127 = (y : Int) := by rw [u8_and127 x hx, Hy.out]
     rw [Hy.out, HA.out.2] at TE TM
     have e2 := grp_wrap hlt2 hy
     have e3 := grp_or hlt2 hy HA.out.1
     have l3 := grp_lt hy HA.out.1
     obtain ⟨z, Hz⟩ := nm (y * 128 ^ k)
     rw [Hz.out] at e2 e3 l3 TE TM
     obtain ⟨ac, Hac⟩ := nm (acc + z)
     rw [Hac.out] at e3 l3 TE TM
     have L3 : Hid (ac < 128 ^ (k + 1)) := l3
     have HL : Hid (k < n /\ k < 9 /\ True) := ⟨hlt1, hlt2, trivial⟩
     have iy : (y : Int) < 128 := by omega
     have ix2 : (x : Int) < 256 := by omega
     clear l3 hl1 hlt HA hR Hz Hac Hy hy
     by_cases hx1 : x < 128
     . have T := TE hx1
       clear TE TM
       simp only [Prod.mk.injEq] at T
       obtain ⟨rfl, eS, T3⟩ := T
       have ix : (x : Int) < 128 := by omega
       have e4 : (k : Int) + 1 = (S : Int) := by omega
       have e5 : IntKind.i64.wrap ((k : Int) + 1) = (S : Int) := by rw [IntKind.wrap_i64]; omega
       have e6 : IntKind.i64.wrap (S : Int) = (S : Int) := by rw [IntKind.wrap_i64]; omega
       have eS' : Hid (k + 1 = S) := eS.symm
       have T3' : Hid (ok = (decide (k = 0) || decide (0 < x))) := T3
       clear hx hx1 eS T3
       go_upto_region 6 with (fail)
       clear e1 e2 e3 e4 e5 e6
       by_cases hk0 : k = 0
       . subst hk0
         have q1 : ok = true := by rw [T3'.out]; simp
         have q2 : S = 1 := by rw [<- eS'.out]
         subst q1 q2
         clear T3' eS'
         go_wp2
         go_quiet (fail)
         go_wp2
         refine bodyPost_ret (results_tmp3 rfl _ _ _) rfl ?_
         exact ⟨rfl, nq, rfl⟩
       . have ik : ¬ ((k : Int) = 0) := by omega
         have BK : Hid (((k : Int) == 0) = false) := by show _ = _; simpa using hk0
         have w1 : IntKind.i64.wrap ((k : Int) + 1) = (S : Int) := by have := eS'.out; rw [IntKind.wrap_i64]; omega
         have w2 : (k : Int) + 1 = (S : Int) := by have := eS'.out; omega
         have w3 : IntKind.i64.wrap (S : Int) = (S : Int) := by have := eS'.out; rw [IntKind.wrap_i64]; omega
         by_cases hx0 : x = 0
         . have q1 : ok = false := by rw [T3'.out]; simp [hk0, hx0]
           subst q1
           subst hx0
           clear T3' eS'
           go_wp2
           go_quiet (fail)
           go_wp2
           refine bodyPost_ret (results_tmp3 rfl _ _ _) rfl ?_
           exact ⟨by rw [BK.out]; rfl, nq, rfl⟩
         . have q1 : ok = true := by rw [T3'.out]; simp [show 0 < x by omega]
           subst q1
           have ix0 : (0 : Int) < (x : Int) := by omega
           have XX : Hid (decide (0 < x) = true) := by show _ = _; simpa using show 0 < x by omega
           clear T3' eS' hx0
           go_wp2
           go_quiet (fail)
           go_wp2
           refine bodyPost_ret (results_tmp3 rfl _ _ _) rfl ?_
           exact ⟨by rw [BK.out, XX.out]; rfl, nq, rfl⟩
     . have T := TM hx1
       have ix : ¬ ((x : Int) < 128) := by omega
       have T' : Hid (nat (9 - (k + 1)) l (k + 1) ac = (N, S, ok)) := T.symm
       clear TE TM T hx hx1
       go_wp2
       go_round
       case rel => exact ⟨k + 1, ac, by omega, by omega, ⟨L3.out, T'.out⟩, rfl, by go_num⟩
       case measure => simp [intOf]; omega
   . have T := HA.out.2
     rw [nat_off (by rw [<- hE.out]; exact hlt)] at T
     simp only [Prod.mk.injEq] at T
     obtain ⟨rfl, rfl, rfl⟩ := T
     clear HA
     first
      | (have j1 : ¬ ((k : Int) < (n : Int)) := by omega
         go_wp2
         refine bodyPost_ret (results_tmp3 rfl _ _ _) rfl ?_
         exact ⟨rfl, F0.out⟩)
      | (have j1 : ¬ ((k : Int) < 9) := by omega
         go_wp2
         refine bodyPost_ret (results_tmp3 rfl _ _ _) rfl ?_
         exact ⟨rfl, F0.out⟩)
end Go.Proofs.YtppibcambhmomaaDoor
namespace Go.Proofs.YtppibcambhmomaaDoor
set_option maxRecDepth 20000
set_option linter.unusedVariables false
set_option linter.unusedSimpArgs false
def valL : List Nat -> Nat
 | [] => 0
 | x :: l => x % 128 + 128 * valL l
end Go.Proofs.YtppibcambhmomaaDoor
namespace Go.Proofs.YtppibcambhmomaaDoor
set_option maxRecDepth 20000
open Go.ChangeShapes Go.WideShapes Go.ChangeAt Go.RowKit
set_option linter.unusedVariables false
set_option linter.unusedSimpArgs false
theorem make_room4 (n : Nat) (h : n + 4 <= 281474976710656) (w : World) : (Instr.makeSlice 27 (.int .i64 0) (.int .i64 ((n : Int) + 4))).run Tryd.prog w = .ok (.slice (some ⟨w.heap.size, 0, none⟩) 0 (n + 4)) (w.alloc (.cells (madeCells #[.int .u8 0] (n + 4)) 5)) := by
 obtain ⟨i, hi, hz0, hz1, hz2⟩ := info_parts info5
 have hr := run_make (P := Tryd.prog) w 27 5 i (.int .u8 0) Tryd.underlying27 hi hz0 .i64 .i64 0 ((n : Int) + 4) (by omega) (by omega) (by rw [hz2]; omega) (by omega)
 rw [hz1] at hr
 have e : ((n : Int) + 4).toNat = n + 4 := by omega
 rw [e] at hr
 simpa [Value.cells] using hr
abbrev four (a b c d : Nat) : Obj := .cells #[.int .u8 (a : Int), .int .u8 (b : Int), .int .u8 (c : Int), .int .u8 (d : Int)] 5
set_option maxHeartbeats 1000000 in
theorem seal_n {a : Option Addr} {n k : Nat} {l : List Nat} {w : World} (h : Hid (Sln w a n l)) (hk : Hid (a = none -> k = 0)) :
  Calls Tryd.prog 18 #[.slice a n k] w fun e w' => ∃ g N, e = .returned (.slice (some ⟨g, 0, none⟩) N N) /\ Hid (N = n + 4 /\ g = w.heap.size /\ Blk w' g (sealL l) /\ Below w.heap.size w w') := by
 have m := h.out.sli.2.1
 have e := h.out.len
 rw [<- e] at m
 have mk := make_room4 n (by omega)
 have hb0 : Below w.heap.size w (w.alloc (.cells (madeCells #[.int .u8 0] (n + 4)) 5)) := (Below.refl _ _).alloc (Nat.le_refl _) _
 have own0 : (w.alloc (.cells (madeCells #[.int .u8 0] (n + 4)) 5)).ownsRow w.heap.size 5 1 (.slice (some ⟨w.heap.size, 0, none⟩) 0 (n + 4)) 0 [] := World.ownsRow_made w _ (n + 4) (Nat.le_refl _) (by unfold maxLen; omega) (by simp [size_madeCells])
 obtain ⟨w1, ap1, own1, gr1⟩ := app_fits own0 (h.out.below hb0) hk.out (by omega)
 rw [Nat.zero_add] at ap1 own1
 have hb1 : Below w.heap.size w w1 := hb0.grown gr1 (by simp) (fun k e => by simp at e; omega)
 obtain ⟨s, Hs⟩ := nm (fsum l)
 have hs : s < 4294967296 := by rw [<- Hs.out]; exact fsum_lt l
 obtain ⟨b3, H3⟩ : ∃ b3, b3 = s / 16777216 := ⟨_, rfl⟩
 obtain ⟨q2, H2⟩ : ∃ q2, q2 = s / 65536 := ⟨_, rfl⟩
 obtain ⟨b2, H2'⟩ : ∃ b2, b2 = q2 % 256 := ⟨_, rfl⟩
 obtain ⟨q1, H1⟩ : ∃ q1, q1 = s / 256 := ⟨_, rfl⟩
 obtain ⟨b1, H1'⟩ : ∃ b1, b1 = q1 % 256 := ⟨_, rfl⟩
 obtain ⟨b0, H0⟩ : ∃ b0, b0 = s % 256 := ⟨_, rfl⟩
 have e3 : (s : Int) / 16777216 = (b3 : Int) := by omega
 have e2 : (s : Int) / 65536 = (q2 : Int) := by omega
 have e2' : (q2 : Int) % 256 = (b2 : Int) := by omega
 have e1 : (s : Int) / 256 = (q1 : Int) := by omega
 have e1' : (q1 : Int) % 256 = (b1 : Int) := by omega
 have e0 : (s : Int) % 256 = (b0 : Int) := by omega
 have x3 : b3 < 256 := by omega
 have x2 : b2 < 256 := by omega
 have x1 : b1 < 256 := by omega
 have x0 : b0 < 256 := by omega
 have y2 : q2 < 65536 := by omega
 have y1 : q1 < 16777216 := by omega
 have EQ : Hid (be4 s = [b3, b2, b1, b0]) := by
  show be4 s = _
  unfold be4
  rw [H2', H1', H3, H2, H1, H0, Nat.mod_eq_of_lt (a := s / 16777216) (by omega)]
 have own1' := own1.alloc (four b3 b2 b1 b0)
 have hb2 : Below w.heap.size w (w1.alloc (four b3 b2 b1 b0)) := hb1.alloc hb1.size _
 have bm : Blk (w1.alloc (four b3 b2 b1 b0)) w1.heap.size [b3, b2, b1, b0] := by
  show (w1.heap.push _)[w1.heap.size]? = _
  simp [bv]
 have sm := bm.sln (by simp; omega) (by simp)
 obtain ⟨w2, ap2, own2, gr2⟩ := app_fits (c := 4) own1' sm (by simp) (by simp)
 have hb3 : Below w.heap.size w w2 := hb2.grown gr2 hb2.size (fun k e => by simp at e; omega)
 have bf : Blk w2 w.heap.size (sealL l) := by
  have e2 : ([] ++ l.map bv ++ [b3, b2, b1, b0].map bv) = (sealL l).map bv := by rw [sealL, Hs.out, EQ.out]; simp
  rw [e2] at own2
  exact own_full own2
 have B3 : Hid (Below w.heap.size w w2) := hb3
 have B1 : Hid (Below w.heap.size w w1) := hb1
 have BF : Hid (Blk w2 w.heap.size (sealL l)) := bf
 have S1 : Hid (Sln w1 a n l) := h.out.below hb1
 have AP1 : Hid ((Builtin.append_ #[27, 27] 27 #[.slice (some ⟨w.heap.size, 0, none⟩) 0 (n + 4),.slice a n k]).run Tryd.prog (w.alloc (.cells (madeCells #[.int .u8 0] (n + 4)) 5)) = .ok (.slice (some ⟨w.heap.size, 0, none⟩) n (n + 4)) w1) := ap1
 have AP2 : Hid ((Builtin.append_ #[27, 27] 27 #[.slice (some ⟨w.heap.size, 0, none⟩) n (n + 4),.slice (some ⟨w1.heap.size, 0, none⟩) 4 4]).run Tryd.prog (w1.alloc (four b3 b2 b1 b0)) = .ok (.slice (some ⟨w.heap.size, 0, none⟩) (n + 4) (n + 4)) w2) := ap2
 clear bf hb3 gr2 own2 sm bm hb2 own1' hb1 own1 gr1 own0 hb0 e ap1 ap2 H3 H2 H2' H1 H1' H0
 go_enter Tryd.func18, Tryd.ntmps18
 go_wp2_with (first
  | (at_builtin; refine wpList_app (by rfl) (.tmp 9) (.tmp 10) (by rfl) (by rfl) (by rfl) (by rfl) AP1 ?_)
  | (at_builtin; refine wpList_app (by rfl) (.tmp 14) (.tmp 26) (by rfl) (by rfl) (by rfl) (by rfl) AP2 ?_)
  | (go_at_call 43; refine (sum_n S1).mono ?_; rintro e w9 ⟨rfl, h9⟩; rw [h9, Hs.out]; clear h9))
 go_ret
 exact ⟨_, n + 4, rfl, rfl, rfl, BF.out, B3.out⟩
theorem equal_n {w : World} {a b : Option Addr} {n m c d : Nat} {l k : List Nat} (h1 : Hid (Sln w a n l)) (h2 : Hid (Sln w b m k)) :
  Calls Tryd.prog 47 #[.slice a n c,.slice b m d] w fun e w' => e = .returned (.bool (decide (l = k))) /\ w' = w := by
 have c1 := conv_n (k := c) h1
 have c2 := conv_n (k := d) h2
 have E := spell_beq h1.out.lt h2.out.lt
 go_enter Tryd.func47, Tryd.ntmps47
 go_wp2
 go_ret
 exact ⟨rfl, rfl⟩
set_option maxHeartbeats 1000000 in
theorem open_bad {w : World} {a : Option Addr} {n c : Nat} {M : Nat -> Prop} {l : List Nat} {E : Nat -> Addr} (h : Hid (Sln w a n l)) (hc : Hid (a = none -> c = 0)) (hnc : n <= c) (hn : 4 <= n) (hbad : Hid (sealL (l.take (n - 4)) ≠ l)) (hE : Hid (Sent w M E)) (hM : M 3) :
  Calls Tryd.prog 23 #[.slice a n c] w fun e w' => e = .returned (.tuple #[.slice none 0 0, .iface 142 (.pointer (some (E 3)))]) /\ Hid (Below w.heap.size w w') := by
 have m := h.out.sli.2.1
 have e := h.out.len
 rw [<- e] at m
 obtain ⟨q, hq⟩ : ∃ q, n = q + 4 := ⟨n - 4, by omega⟩
 subst hq
 have eq4 : q + 4 - 4 = q := by omega
 have S1 : Hid (Sln w a q (l.take q)) := h.out.take (by omega)
 have NE : Hid (decide (sealL (l.take q) = l) = false) := by have := hbad.out; rw [eq4] at this; show decide _ = false; simpa using this
 clear e hbad
 go_enter Tryd.func23, Tryd.ntmps23
 go_wp2_with (first
  | (go_at_call 18; refine (seal_n S1 hc).mono ?_; rintro e w1 ⟨g, N, rfl, H1⟩
     have L1 : Hid ((sealL (l.take q)).length <= 140737488352256) := by have := S1.out.len; rw [Hid, seal_len, <- this]; omega
     have T1 : Hid (Sln w1 (some ⟨g, 0, none⟩) N (sealL (l.take q))) := by
      have := H1.out.2.2.1.sln (seal_bytes S1.out.lt) L1.out
      rw [seal_len, <- S1.out.len, <- H1.out.1] at this
      exact this
     have T2 : Hid (Sln w1 a (q + 4) l) := h.out.below H1.out.2.2.2
     have ce := (hE.out.below H1.out.2.2.2).c 3 hM
     unfold er at ce
     have FIN : Hid (∀ j, Below w.heap.size w (w1.drewN j)) := fun j => below_drewN H1.out.2.2.2 j)
  | (go_at_call 47; refine (equal_n T1 T2).mono ?_; rintro e w9 ⟨rfl, h9⟩; rw [h9, NE.out]; clear h9))
 go_quiet (fail)
 go_wp2
 go_ret2
 exact ⟨rfl, FIN.out _⟩
theorem u64_xor_nat (a b : Nat) (ha : a < 18446744073709551616) (hb : b < 18446744073709551616) : bits .xor .u64 (a : Int) (b : Int) = ((a ^^^ b : Nat) : Int) := by
 have h : a ^^^ b < 18446744073709551616 := Nat.xor_lt_two_pow (n := 64) ha hb
 show IntKind.u64.wrap ((BitVec.ofInt 64 (a : Int) ^^^ BitVec.ofInt 64 (b : Int)).toNat : Int) = _
 rw [BitVec.toNat_xor, BitVec.toNat_ofInt, BitVec.toNat_ofInt, IntKind.wrap_u64]
 have ea : ((a : Int) % ((2 ^ 64 : Nat) : Int)).toNat = a := by omega
 have eb : ((b : Int) % ((2 ^ 64 : Nat) : Int)).toNat = b := by omega
 rw [ea, eb]
 omega
set_option maxHeartbeats 1000000 in
theorem refsum_n {w : World} {a : Option Addr} {n c : Nat} {l : List Nat} (h : Hid (Sln w a n l)) :
  Calls Tryd.prog 52 #[.slice a n c] w fun e w' => e = .returned (.int .u32 ((fsum l : Nat) : Int)) /\ w' = w := by
 have m := h.out.sli.2.1
 have e := h.out.len
 rw [<- e] at m
 have hE : Hid (n = l.length) := e
 clear e
 have F0 : Hid (fnv 2166136261 (l.take 0) = 2166136261) := rfl
 go_enter Tryd.func52, Tryd.ntmps52
 go_wp2
 go_loop [3, 8] (fun ts ti => ∃ k s : Nat, k <= n /\ s < 4294967296 /\ Hid (fnv 2166136261 (l.take k) = s) /\ ts = .int .u64 s /\ ti = .int .i64 k) (fun _ ti => n - (intOf ti).toNat)
 case atStart => exact ⟨0, 2166136261, by omega, by omega, F0.out, rfl, rfl⟩
 case round =>
  obtain ⟨k, s, hk, hs, HS, rfl, rfl⟩ := hrel
  by_cases hlt : k < n
  . obtain ⟨b, off, rfl, c1⟩ := row_at h.out hlt
    obtain ⟨x, Hx⟩ := nm (l.getD k 0)
    have hx : x < 256 := by rw [<- Hx.out]; exact getD_lt h.out.lt k
    rw [Hx.out] at c1
    obtain ⟨y, Hy⟩ := nm (s ^^^ x)
    have hy : y < 4294967296 := by rw [<- Hy.out]; exact Nat.xor_lt_two_pow (n := 32) hs (by omega)
    have e1 : bits .xor .u64 (s : Int) (x : Int) = (y : Int) := by rw [u64_xor_nat s x (by omega) (by omega), Hy.out]
    obtain ⟨z, Hz⟩ := nm (y * 16777619 % 4294967296)
    have hz : z < 4294967296 := by rw [<- Hz.out]; exact Nat.mod_lt _ (by omega)
    have e2 : Int.tmod ((y : Int) * 16777619) 4294967296 = (z : Int) := by rw [Int.tmod_eq_emod_of_nonneg (by omega)]; have := Hz.out; omega
    have e3 : (y : Int) * 16777619 % 4294967296 = (z : Int) := by have := Hz.out; omega
    have F1 : Hid (fnv 2166136261 (l.take (k + 1)) = z) := by
     rw [take_succ_getD (by rw [<- hE.out]; exact hlt), fnv_snoc, HS.out, Hx.out, stp, Hy.out]
     exact Hz.out
    clear hE HS Hx Hy Hz
    go_wp2
    go_round
    case rel => exact ⟨k + 1, z, by omega, hz, F1.out, by go_num, by go_num⟩
    case measure => simp [intOf]; omega
  . have ek : k = n := by omega
    have F1 : Hid (fsum l = s) := by
     rw [<- HS.out, ek, hE.out, List.take_length]; rfl
    clear hE HS
    go_wp2
    go_ret
    exact ⟨by rw [F1.out]; rfl, rfl⟩
theorem own_empty (w : World) : Own (w.alloc (.cells #[] 5)) w.heap.size (some ⟨w.heap.size, 0, none⟩) 0 0 [] := ⟨rfl, World.ownsRow_made w #[] 0 (Nat.le_refl _) (by unfold maxLen; omega) (by simp), by simp⟩
set_option maxHeartbeats 1000000 in
theorem refseal_n {a : Option Addr} {n k : Nat} {l : List Nat} {w : World} (h : Hid (Sln w a n l)) (hk : Hid (a = none -> k = 0)) (hn : n + 4 <= 140737488352256) :
  Calls Tryd.prog 27 #[.slice a n k] w fun e w' => ∃ a' N c', e = .returned (.slice a' N c') /\ Hid (N = n + 4 /\ Own w' w.heap.size a' N c' (sealL l) /\ Below w.heap.size w w') := by
 have e := h.out.len
 have b1 : Below w.heap.size w (w.alloc (.cells #[] 5)) := (Below.refl _ _).alloc (Nat.le_refl _) _
 obtain ⟨a2, c2, w2, hrun, own2, gr2, new2⟩ := app_any (c2 := k) (own_empty w) (h.out.below b1) hk.out (by omega) (by simp)
 rw [Nat.zero_add] at hrun own2
 rw [List.nil_append] at own2
 have b2 : Below w.heap.size w w2 := b1.grown gr2 (by simp) (fun k e => by simp [blkOf] at e; omega)
 obtain ⟨s, Hs⟩ := nm (fsum l)
 have hs : s < 4294967296 := by rw [<- Hs.out]; exact fsum_lt l
 obtain ⟨b3, H3⟩ : ∃ b3, b3 = s / 16777216 := ⟨_, rfl⟩
 obtain ⟨q2, H2⟩ : ∃ q2, q2 = s / 65536 := ⟨_, rfl⟩
 obtain ⟨b2', H2'⟩ : ∃ b2, b2 = q2 % 256 := ⟨_, rfl⟩
 obtain ⟨q1, H1⟩ : ∃ q1, q1 = s / 256 := ⟨_, rfl⟩
 obtain ⟨b1', H1'⟩ : ∃ b1, b1 = q1 % 256 := ⟨_, rfl⟩
 obtain ⟨b0, H0⟩ : ∃ b0, b0 = s % 256 := ⟨_, rfl⟩
 have e3 : (s : Int) / 16777216 = (b3 : Int) := by omega
 have e2 : (s : Int) / 65536 = (q2 : Int) := by omega
 have e2' : (q2 : Int) % 256 = (b2' : Int) := by omega
 have e1 : (s : Int) / 256 = (q1 : Int) := by omega
 have e1' : (q1 : Int) % 256 = (b1' : Int) := by omega
 have e0 : (s : Int) % 256 = (b0 : Int) := by omega
 have x3 : b3 < 256 := by omega
 have x2 : b2' < 256 := by omega
 have x1 : b1' < 256 := by omega
 have x0 : b0 < 256 := by omega
 have y2 : q2 < 65536 := by omega
 have y1 : q1 < 16777216 := by omega
 have EQ : Hid (be4 s = [b3, b2', b1', b0]) := by
  show be4 s = _
  unfold be4
  rw [H2', H1', H3, H2, H1, H0, Nat.mod_eq_of_lt (a := s / 16777216) (by omega)]
 have b3w : Below w.heap.size w (w2.alloc (four b3 b2' b1' b0)) := b2.alloc b2.size _
 have bm : Blk (w2.alloc (four b3 b2' b1' b0)) w2.heap.size [b3, b2', b1', b0] := by
  show (w2.heap.push _)[w2.heap.size]? = _
  simp [bv]
 have sm := bm.sln (by simp; omega) (by simp)
 have own3 : Own (w2.alloc (four b3 b2' b1' b0)) w.heap.size a2 n c2 l := ⟨own2.len, own2.own.alloc _, own2.lt⟩
 obtain ⟨a4, c4, w4, hrun4, own4, gr4, new4⟩ := app_any (c2 := 4) own3 sm (by simp) (by simp; omega) b3w.size
 simp only [List.length_cons, List.length_nil, Nat.zero_add, Nat.reduceAdd] at hrun4 own4
 have AP1 : Hid ((Builtin.append_ #[27, 27] 27 #[.slice (some ⟨w.heap.size, 0, none⟩) 0 0,.slice a n k]).run Tryd.prog (w.alloc (.cells #[] 5)) = .ok (.slice a2 n c2) w2) := hrun
 have AP2 : Hid ((Builtin.append_ #[27, 27] 27 #[.slice a2 n c2,.slice (some ⟨w2.heap.size, 0, none⟩) 4 4]).run Tryd.prog (w2.alloc (four b3 b2' b1' b0)) = .ok (.slice a4 (n + 4) c4) w4) := hrun4
 have FIN : Hid (Own w4 w.heap.size a4 (n + 4) c4 (sealL l) /\ Below w.heap.size w w4) := by
  refine ⟨?_, b3w.grown gr4 b3w.size (fun j hj => (own3.ge j hj).1)⟩
  rw [sealL, Hs.out, EQ.out]
  exact own4
 clear hrun own2 gr2 new2 b1 b2 e H3 H2 H2' H1 H1' H0 b3w bm sm own3 hrun4 own4 gr4 new4 EQ
 go_enter Tryd.func27, Tryd.ntmps27
 go_wp2_with (first
  | (at_builtin; refine wpList_app (by rfl) (.tmp 6) (.tmp 7) (by rfl) (by rfl) (by rfl) (by rfl) AP1 ?_)
  | (at_builtin; refine wpList_app (by rfl) (.tmp 8) (.tmp 20) (by rfl) (by rfl) (by rfl) (by rfl) AP2 ?_)
  | (go_at_call 52; refine (refsum_n h).mono ?_; rintro e w9 ⟨rfl, h9⟩; rw [h9, Hs.out]; clear h9))
 go_ret
 exact ⟨a4, n + 4, c4, rfl, rfl, FIN.out⟩
set_option maxHeartbeats 1000000 in
theorem open_few {w : World} {a : Option Addr} {n c : Nat} {M : Nat -> Prop} {E : Nat -> Addr} (hn : n < 4) (hE : Hid (Sent w M E)) (hM : M 1) :
  Calls Tryd.prog 23 #[.slice a n c] w fun e w' => e = .returned (.tuple #[.slice none 0 0, .iface 142 (.pointer (some (E 1)))]) /\ Hid (Below w.heap.size w w') := by
 have i1 : (n : Int) < 4 := by omega
 have ce := hE.out.c 1 hM
 unfold er at ce
 have FIN : Hid (∀ j, Below w.heap.size w (w.drewN j)) := fun j => below_drewN (Below.refl _ _) j
 go_enter Tryd.func23, Tryd.ntmps23
 go_wp2
 go_quiet (fail)
 go_wp2
 go_ret2
 exact ⟨rfl, FIN.out _⟩
set_option maxHeartbeats 1000000 in
theorem open_ok {w : World} {a : Option Addr} {n c : Nat} {l : List Nat} (h : Hid (Sln w a n l)) (hc : Hid (a = none -> c = 0)) (hnc : n <= c) (hn : 4 <= n) (hok : Hid (sealL (l.take (n - 4)) = l)) :
  Calls Tryd.prog 23 #[.slice a n c] w fun e w' => ∃ a' N c', e = .returned (.tuple #[.slice a' N c', .nilIface]) /\ Hid (N = n - 4 /\ Own w' w.heap.size a' N c' (l.take (n - 4)) /\ Below w.heap.size w w') := by
 have m := h.out.sli.2.1
 have e := h.out.len
 rw [<- e] at m
 obtain ⟨q, hq⟩ : ∃ q, n = q + 4 := ⟨n - 4, by omega⟩
 subst hq
 have eq4 : q + 4 - 4 = q := by omega
 have S1 : Hid (Sln w a q (l.take q)) := h.out.take (by omega)
 have NE : Hid (decide (sealL (l.take q) = l) = true) := by have := hok.out; rw [eq4] at this; show decide _ = true; simpa using this
 clear e hok
 rw [eq4]
 go_enter Tryd.func23, Tryd.ntmps23
 go_wp2_with (first
  | (go_at_call 18; refine (seal_n S1 hc).mono ?_; rintro e w1 ⟨g, N, rfl, H1⟩
     have L1 : Hid ((sealL (l.take q)).length <= 140737488352256) := by have := S1.out.len; rw [Hid, seal_len, <- this]; omega
     have T1 : Hid (Sln w1 (some ⟨g, 0, none⟩) N (sealL (l.take q))) := by
      have := H1.out.2.2.1.sln (seal_bytes S1.out.lt) L1.out
      rw [seal_len, <- S1.out.len, <- H1.out.1] at this
      exact this
     have T2 : Hid (Sln w1 a (q + 4) l) := h.out.below H1.out.2.2.2
     have T3 : Hid (Sln w1 a q (l.take q)) := S1.out.below H1.out.2.2.2
     have B1 : Hid (Below w.heap.size w w1) := H1.out.2.2.2)
  | (go_at_call 47; refine (equal_n T1 T2).mono ?_; rintro e w9 ⟨rfl, h9⟩; rw [h9, NE.out]; clear h9)
  | (go_at_call 48; refine (clone_n T3 hc).mono ?_; rintro e w2 ⟨a2, c2, rfl, H2⟩))
 go_ret2
 exact ⟨a2, q, c2, rfl, rfl, H2.out.1.base B1.out.size, B1.out.trans (H2.out.2.mono B1.out.size)⟩
abbrev sevO : Obj := .cells #[.int .u8 7, .int .u8 7, .int .u8 7, .int .u8 7, .int .u8 7, .int .u8 7, .int .u8 7, .int .u8 7] 5
def sev : List Nat := [7, 7, 7, 7, 7, 7, 7, 7]
set_option maxHeartbeats 1000000 in
theorem refnum_n {w : World} {N : Nat} (hN : N < 9223372036854775808) :
  Calls Tryd.prog 25 #[.int .i64 (N : Int)] w fun e w' => ∃ a' n' c', e = .returned (.slice a' n' c') /\ Hid (Own w' w.heap.size a' n' c' (enc N) /\ Below w.heap.size w w') := by
 have TL : Hid ((enc N).length <= 140737488352256) := by have := enc_nine hN; show _ <= _; omega
 have A0 : Hid (Own (w.alloc (.cells #[] 5)) w.heap.size (some ⟨w.heap.size, 0, none⟩) 0 0 [] /\ Below w.heap.size w (w.alloc (.cells #[] 5)) /\ [] ++ enc N = enc N) := ⟨own_empty w, (Below.refl _ _).alloc (Nat.le_refl _) _, rfl⟩
 obtain ⟨T, HT⟩ := nm (enc N)
 rw [HT.out] at TL A0 ⊢
 rw [<- HT.out] at A0
 have A1 : Hid (Own (w.alloc (.cells #[] 5)) w.heap.size (some ⟨w.heap.size, 0, none⟩) 0 0 [] /\ Below w.heap.size w (w.alloc (.cells #[] 5)) /\ [] ++ enc N = T) := by rw [<- HT.out]; exact A0.out
 clear A0 HT
 go_enter Tryd.func25, Tryd.ntmps25
 go_wp2
 go_loopw [0, 3] (fun tn tv wr => ∃ (a1 : Option Addr) (n1 c1 m : Nat) (P : List Nat), tv = .slice a1 n1 c1 /\ tn = .int .i64 m /\ m < 9223372036854775808 /\ Hid (Own wr w.heap.size a1 n1 c1 P /\ Below w.heap.size w wr /\ P ++ enc m = T)) (fun tn _ _ => (intOf tn).toNat)
 case atStart => exact ⟨_, 0, 0, N, [], rfl, rfl, hN, A1.out⟩
 case round =>
  clear A1
  obtain ⟨a1, n1, c1, m, P, rfl, rfl, hm, H1⟩ := hrel
  have hn1 : n1 + 1 <= 140737488352256 := by
   have h1 := H1.out.1.len
   have h2 := congrArg List.length H1.out.2.2
   have h3 := TL.out
   have h4 := enc_pos m
   rw [List.length_append] at h2
   omega
  obtain ⟨y, Hy⟩ := nm (m % 128)
  have hy : y < 128 := by rw [<- Hy.out]; omega
  obtain ⟨q, Hq⟩ := nm (m / 128)
  have hq : q < 9223372036854775808 := by rw [<- Hq.out]; omega
  have e1 : Int.tmod (m : Int) 128 = (y : Int) := by rw [Int.tmod_eq_emod_of_nonneg (by omega)]; have := Hy.out; omega
  have e1' : (m : Int) % 128 = (y : Int) := by have := Hy.out; omega
  have e2 : Int.tdiv (m : Int) 128 = (q : Int) := by rw [Int.tdiv_eq_ediv_of_nonneg (by omega)]; have := Hq.out; omega
  have e2' : (m : Int) / 128 = (q : Int) := by have := Hq.out; omega
  have HB : Hid (w.heap.size <= wr.heap.size) := H1.out.2.1.size
  by_cases hlt : m < 128
  . obtain ⟨a2, c2, w2, hrun, h2, h3, h4⟩ := app_byte H1.out.1 (x := y) (by omega) hn1 HB.out
    have AP : Hid ((Builtin.append_ #[27, 27] 27 #[.slice a1 n1 c1,.slice (some ⟨wr.heap.size, 0, none⟩) 1 1]).run Tryd.prog (wr.alloc (.cells #[.int .u8 (y : Int)] 5)) = .ok (.slice a2 (n1 + 1) c2) w2) := hrun
    have F : Hid (Own w2 w.heap.size a2 (n1 + 1) c2 T /\ Below w.heap.size w w2) := by
     have e := H1.out.2.2
     rw [enc_lt hlt, show m = y by have := Hy.out; omega] at e
     rw [<- e]
     exact ⟨h2, H1.out.2.1.grown h3 HB.out (fun j hj => (H1.out.1.ge j hj).1)⟩
    have q0 : q = 0 := by rw [<- Hq.out]; omega
    subst q0
    clear hrun h2 h3 h4 H1 Hy Hq hlt
    go_wp2_with (at_builtin; refine wpList_app (by rfl) (.tmp 13) (.tmp 15) (by rfl) (by rfl) (by rfl) (by rfl) AP ?_)
    go_ret
    exact ⟨a2, n1 + 1, c2, rfl, F.out⟩
  . obtain ⟨x, Hx⟩ : ∃ x, Hid (x = y + 128) := ⟨_, rfl⟩
    have hx : x < 256 := by rw [Hx.out]; omega
    have e3 : (y : Int) + 128 = (x : Int) := by have := Hx.out; omega
    have q0 : ¬ ((q : Int) = 0) := by have := Hq.out; omega
    obtain ⟨a2, c2, w2, hrun, h2, h3, h4⟩ := app_byte H1.out.1 (x := x) hx hn1 HB.out
    have AP : Hid ((Builtin.append_ #[27, 27] 27 #[.slice a1 n1 c1,.slice (some ⟨wr.heap.size, 0, none⟩) 1 1]).run Tryd.prog (wr.alloc (.cells #[.int .u8 (x : Int)] 5)) = .ok (.slice a2 (n1 + 1) c2) w2) := hrun
    have F : Hid (Own w2 w.heap.size a2 (n1 + 1) c2 (P ++ [x]) /\ Below w.heap.size w w2 /\ P ++ [x] ++ enc q = T) := by
     refine ⟨h2, H1.out.2.1.grown h3 HB.out (fun j hj => (H1.out.1.ge j hj).1), ?_⟩
     have e := H1.out.2.2
     rw [enc_ge (by omega), Hy.out, Hq.out] at e
     rw [<- e, Hx.out]
     simp
    have HQ : Hid (q < m) := by show _ < _; have := Hq.out; omega
    clear hrun h2 h3 h4 H1 Hy Hq Hx hlt
    go_wp2_with (at_builtin; refine wpList_app (by rfl) (.tmp 17) (.tmp 20) (by rfl) (by rfl) (by rfl) (by rfl) AP ?_)
    go_roundw
    case rel => exact ⟨a2, n1 + 1, c2, q, P ++ [x], rfl, rfl, hq, F.out⟩
    case measure => have := HQ.out; simp [intOf]; omega
end Go.Proofs.YtppibcambhmomaaDoor
