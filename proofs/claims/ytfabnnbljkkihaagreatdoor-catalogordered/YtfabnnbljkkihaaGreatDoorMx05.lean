import Derived.Test.YtfabnnbljkkihaaGreatDoorMxp
import Derived.Test.YtfabnnbljkkihaaGreatDoorMx04
namespace Go.Proofs.YtfabnnbljkkihaaGreatDoor.Sh
open Go.ChangeShapes Go.WideShapes Go.ChangeAt Go.RowKit
set_option linter.unusedVariables false
set_option linter.unusedSimpArgs false
def Kst (w : World) : Prop := ∀ i, i < 64 -> w.cell? ⟨19, i, none⟩ = some (.int .u32 (Gs.K.getD i 0 : Nat))
def Z8 : List Nat := List.replicate 8 0
def Z64 : List Nat := List.replicate 64 0
structure Aft (w wr : World) (g5 : Nat) (s W : List Nat) : Prop where
 st : Arr .u32 185 wr w.heap.size s
 out : Arr .u32 185 wr (w.heap.size + 1 + 1) Z8
 sch : Arr .u32 195 wr g5 W
 bel : Below w.heap.size w wr
def Lt32 (l : List Nat) : Prop := ∀ x ∈ l, x < 4294967296
theorem wpList_st0 {ops : Array Oper} {rest : List Oper} {o : Oper} {a : Act} {Q : Exit -> Act -> World -> Prop} {w : World} {k : IntKind} {t : TypeId} {g : Nat} {l l2 : List Nat} (hgd : o.guard = none) (hd : o.dst = none) (ty : TypeId) (x y : Operand)
  (ho : o.op = .store ty x y) (hx : a.eval x = .pointer (some ⟨g, 0, none⟩)) (hy : a.eval y = .agg (cs k l2)) (hr : Hid (Arr k t w g l)) (hi : (Tryz.prog.info? ty).map (·.size) = some l2.length) (hl : l.length = l2.length)
  (h : wpList Tryz.prog ops Q rest a (w.setRow g (cs k l2))) : wpList Tryz.prog ops Q (o :: rest) a w :=
 wpList_st hgd ty x y ho hx hy hr hi hl (by rw [hd]; exact h)
theorem aft_start {w w1 : World} {s b W : List Nat} (hw : Below (((w.alloc (.cells (cs .u32 s) 185)).alloc (.cells (cs .u8 b) 188)).alloc (.cells (cs .u32 Z8) 185)).heap.size (((w.alloc (.cells (cs .u32 s) 185)).alloc (.cells (cs .u8 b) 188)).alloc (.cells (cs .u32 Z8) 185)) w1) :
  Aft w ((w1.alloc (.cells (cs .u32 Z64) 195)).setRow w1.heap.size (cs .u32 W)) w1.heap.size s W /\ w.heap.size < w1.heap.size := by
 have hz : (((w.alloc (.cells (cs .u32 s) 185)).alloc (.cells (cs .u8 b) 188)).alloc (.cells (cs .u32 Z8) 185)).heap.size = w.heap.size + 1 + 1 + 1 := by simp
 have h1 := hw.size
 rw [hz] at h1
 have o : Oth w1.heap.size (w1.alloc (.cells (cs .u32 Z64) 195)) ((w1.alloc (.cells (cs .u32 Z64) 195)).setRow w1.heap.size (cs .u32 W)) := Oth.setRow _
 obtain ⟨t1, t2, t3⟩ := three w (.cells (cs .u32 s) 185) (.cells (cs .u8 b) 188) (.cells (cs .u32 Z8) 185)
 have a1 : Arr .u32 185 w1 w.heap.size s := Arr.below (k := .u32) (t := 185) t1 hw (by rw [hz]; omega)
 have a3 : Arr .u32 185 w1 (w.heap.size + 1 + 1) Z8 := Arr.below (k := .u32) (t := 185) t3 hw (by rw [hz]; omega)
 have hb := below3 w (.cells (cs .u32 s) 185) (.cells (cs .u8 b) 188) (.cells (cs .u32 Z8) 185)
 have hb2 : Below w.heap.size w w1 := hb.trans (hw.mono (by rw [hz]; omega))
 refine ⟨⟨(a1.alloc _).oth o (by omega), (a3.alloc _).oth o (by omega), (Arr.new w1 .u32 195 Z64).setRow W, o.below (hb2.alloc hb2.size _) (by omega)⟩, by omega⟩
def Ok (r : Gs.St) : Prop := r.a < 4294967296 /\ r.b < 4294967296 /\ r.c < 4294967296 /\ r.d < 4294967296 /\ r.e < 4294967296 /\ r.f < 4294967296 /\ r.g < 4294967296 /\ r.h < 4294967296
theorem Lt32.getD {l : List Nat} (h : Lt32 l) (i : Nat) : l.getD i 0 < 4294967296 := by
 by_cases hi : i < l.length
 . have e : l.getD i 0 = l[i] := by simp [List.getD, hi]
   rw [e]; exact h _ (List.getElem_mem hi)
 . have e : l.getD i 0 = 0 := by simp [List.getD, Nat.le_of_not_lt hi]
   omega
theorem Ok.ofL {l : List Nat} (h : Lt32 l) : Ok (Gs.ofL l) := ⟨h.getD 0, h.getD 1, h.getD 2, h.getD 3, h.getD 4, h.getD 5, h.getD 6, h.getD 7⟩
theorem Ok.step {r : Gs.St} (h : Ok r) (k w : Nat) : Ok (Gs.step r k w) := ⟨Gs.add_lt _ _, h.1, h.2.1, h.2.2.1, Gs.add_lt _ _, h.2.2.2.2.1, h.2.2.2.2.2.1, h.2.2.2.2.2.2.1⟩
theorem Aft.drewN {w wr : World} {g5 : Nat} {s W : List Nat} (h : Aft w wr g5 s W) (n : Nat) : Aft w (wr.drewN n) g5 s W := ⟨h.st, h.out, h.sch, ⟨h.bel.os, h.bel.tape, h.bel.output, h.bel.size, h.bel.block⟩⟩
theorem Kst.below {B : Nat} {w wr : World} (h : Kst w) (hb : Below B w wr) (h0 : 19 < B) : Kst wr := fun i hi => (hb.cell (p := ⟨19, i, none⟩) h0).trans (h i hi)
structure Rnd (w wr : World) (g5 : Nat) (s W : List Nat) (n a b c d e f g h : Nat) : Prop where
 aft : Aft w wr g5 s W
 eq : Gs.rounds W (Gs.ofL s) n = ⟨a, b, c, d, e, f, g, h⟩
 ok : Ok ⟨a, b, c, d, e, f, g, h⟩
theorem add_mod (a b : Nat) : ((a : Int) + (b : Int)) % 4294967296 = ((Gs.add a b : Nat) : Int) := by
 unfold Gs.add
 omega
def sig1 (e : Nat) : Nat := (Gs.rot 6 e ^^^ Gs.rot 11 e) ^^^ Gs.rot 25 e
def sig0 (a : Nat) : Nat := (Gs.rot 2 a ^^^ Gs.rot 13 a) ^^^ Gs.rot 22 a
theorem sig1_bits {x : Nat} (hx : x < 4294967296) : bits BinOp.xor IntKind.u32 (bits BinOp.xor IntKind.u32 ((Gs.rot 6 x : Nat) : Int) ((Gs.rot 11 x : Nat) : Int)) ((Gs.rot 25 x : Nat) : Int) = ((sig1 x : Nat) : Int) := by
 rw [xor_nat (Gs.rot_lt _ _ hx) (Gs.rot_lt _ _ hx), xor_nat (Gs.xor_lt (Gs.rot_lt _ _ hx) (Gs.rot_lt _ _ hx)) (Gs.rot_lt _ _ hx)]
 rfl
theorem sig0_bits {x : Nat} (hx : x < 4294967296) : bits BinOp.xor IntKind.u32 (bits BinOp.xor IntKind.u32 ((Gs.rot 2 x : Nat) : Int) ((Gs.rot 13 x : Nat) : Int)) ((Gs.rot 22 x : Nat) : Int) = ((sig0 x : Nat) : Int) := by
 rw [xor_nat (Gs.rot_lt _ _ hx) (Gs.rot_lt _ _ hx), xor_nat (Gs.xor_lt (Gs.rot_lt _ _ hx) (Gs.rot_lt _ _ hx)) (Gs.rot_lt _ _ hx)]
 rfl
theorem xor_all {e : Nat} (he : e < 4294967296) : 4294967295 ^^^ e = 4294967295 - e := by
 have h := u32_andNot_nat 4294967295 e (by decide) he
 apply Nat.eq_of_testBit_eq
 intro i
 have h2 : (4294967295 : Nat) - e = 2 ^ 32 - (e + 1) := by omega
 rw [Nat.testBit_xor, h2, Nat.testBit_two_pow_sub_succ (show e < 2 ^ 32 from he)]
 have h3 : (4294967295 : Nat) = 2 ^ 32 - 1 := by decide
 rw [h3, Nat.testBit_two_pow_sub_one]
 by_cases hi : i < 32
 . simp [hi]
 . have : e.testBit i = false := Nat.testBit_lt_two_pow (Nat.lt_of_lt_of_le he (by
    have : (2 : Nat) ^ 32 <= 2 ^ i := Nat.pow_le_pow_right (by decide) (by omega)
    simpa using this))
   simp [hi, this]
theorem not_bits {e : Nat} (he : e < 4294967296) : bits BinOp.xor IntKind.u32 (if IntKind.u32.signed = true then -1 else IntKind.u32.max) (e : Int) = ((4294967295 - e : Nat) : Int) := by
 have e1 : (if IntKind.u32.signed = true then -1 else IntKind.u32.max) = ((4294967295 : Nat) : Int) := by decide
 rw [e1, xor_nat (by decide) he, xor_all he]
theorem and_nat {a b : Nat} (ha : a < 4294967296) (hb : b < 4294967296) : bits BinOp.and IntKind.u32 (a : Int) (b : Int) = ((a &&& b : Nat) : Int) := u32_and_nat a b ha hb
theorem choice_bits {e f g : Nat} (he : e < 4294967296) (hf : f < 4294967296) (hg : g < 4294967296) : bits BinOp.xor IntKind.u32 (bits BinOp.and IntKind.u32 (e : Int) (f : Int)) (bits BinOp.and IntKind.u32 (bits BinOp.xor IntKind.u32 (if IntKind.u32.signed = true then -1 else IntKind.u32.max) (e : Int)) (g : Int)) = ((Gs.choice e f g : Nat) : Int) := by
 rw [not_bits he, and_nat he hf, and_nat (by omega) hg, xor_nat (Gs.and_lt he) (Gs.and_lt (by omega))]
 rfl
theorem most_bits {a b c : Nat} (ha : a < 4294967296) (hb : b < 4294967296) (hc : c < 4294967296) : bits BinOp.xor IntKind.u32 (bits BinOp.xor IntKind.u32 (bits BinOp.and IntKind.u32 (a : Int) (b : Int)) (bits BinOp.and IntKind.u32 (a : Int) (c : Int))) (bits BinOp.and IntKind.u32 (b : Int) (c : Int)) = ((Gs.most a b c : Nat) : Int) := by
 rw [and_nat ha hb, and_nat ha hc, and_nat hb hc, xor_nat (Gs.and_lt ha) (Gs.and_lt ha), xor_nat (Gs.xor_lt (Gs.and_lt ha) (Gs.and_lt ha)) (Gs.and_lt hb)]
 rfl
set_option maxRecDepth 20000 in
set_option maxHeartbeats 2000000 in
theorem after_n (s b : List Nat) (hs : s.length = 8) (hb : b.length = 64) (hS : Hid (Lt32 s)) (hB : Hid (∀ x ∈ b, x < 256)) (w : World) (hK : Hid (Kst w)) (h0 : 19 < w.heap.size) :
  Calls Tryz.prog 147 #[.agg (cs .u32 s), .agg (cs .u8 b)] w fun e w' => ∃ l, e = .returned (.agg (cs .u32 l)) /\ Hid (l = Gs.after s b /\ Below w.heap.size w w') := by
 have Ls : Hid (s.length = 8) := hs
 have Lb : Hid (b.length = 64) := hb
 clear hs hb
 have R1 : ∀ o3, Hid (Rng .u8 (((w.alloc (.cells (cs .u32 s) 185)).alloc (.cells (cs .u8 b) 188)).alloc o3) (w.heap.size + 1) 0 b) := fun o3 => Arr.rng (k := .u8) (t := 188) (three w _ _ o3).2.1
 go_enter Tryz.func147, Tryz.ntmps147
 go_wp2_with (first
  | (refine wpList_ld (by rfl) 188 (.tmp 3) (by rfl) (by rfl) (R1 _) und56 (by rw [Lb.out]; exact sz56) ?_)
  | (go_at_call 157; refine (sch b Lb.out hB.out _).mono ?_; rintro e w1 ⟨W, rfl, HW⟩
     have R5 : Hid (Arr .u32 195 (w1.alloc (.cells (cs .u32 Z64) 195)) w1.heap.size Z64) := Arr.new w1 .u32 195 Z64
     have N5 : Hid (W.length = 64) := by rw [HW.out.1]; exact schedN_length b 48
     have A5 : Hid (Aft w ((w1.alloc (.cells (cs .u32 Z64) 195)).setRow w1.heap.size (cs .u32 W)) w1.heap.size s W /\ w.heap.size < w1.heap.size) := aft_start HW.out.2
     have W5 : Hid (W = Gs.sched b) := HW.out.1)
  | (refine wpList_st0 (t := 195) (l := Z64) (by rfl) (by rfl) 195 (.tmp 5) (.tmp 18) (by rfl) (by rfl) (by rfl) R5 (by rw [N5.out]; exact sz65) (by rw [N5.out]; rfl) ?_
     generalize hg5 : w1.heap.size = g5 at A5 ⊢
     obtain ⟨w5, hw5⟩ : ∃ w5, w5 = (w1.alloc (.cells (cs .u32 Z64) 195)).setRow g5 (cs .u32 W) := ⟨_, rfl⟩
     rw [<- hw5] at A5
     refine (show _ = w5 from hw5.symm) ▸ ?_
     clear hw5 hg5 R5 HW R1))
 obtain ⟨s0, S0⟩ := nm (s.getD 0 0)
 obtain ⟨s1, S1⟩ := nm (s.getD 1 0)
 obtain ⟨s2, S2⟩ := nm (s.getD 2 0)
 obtain ⟨s3, S3⟩ := nm (s.getD 3 0)
 obtain ⟨s4, S4⟩ := nm (s.getD 4 0)
 obtain ⟨s5, S5⟩ := nm (s.getD 5 0)
 obtain ⟨s6, S6⟩ := nm (s.getD 6 0)
 obtain ⟨s7, S7⟩ := nm (s.getD 7 0)
 have c0 : w5.cell? ⟨w.heap.size, 0, none⟩ = some (.int .u32 (s0 : Nat)) := by rw [<- S0.out]; exact A5.out.1.st.cell (by rw [Ls.out]; omega)
 have c1 : w5.cell? ⟨w.heap.size, 1, none⟩ = some (.int .u32 (s1 : Nat)) := by rw [<- S1.out]; exact A5.out.1.st.cell (by rw [Ls.out]; omega)
 have c2 : w5.cell? ⟨w.heap.size, 2, none⟩ = some (.int .u32 (s2 : Nat)) := by rw [<- S2.out]; exact A5.out.1.st.cell (by rw [Ls.out]; omega)
 have c3 : w5.cell? ⟨w.heap.size, 3, none⟩ = some (.int .u32 (s3 : Nat)) := by rw [<- S3.out]; exact A5.out.1.st.cell (by rw [Ls.out]; omega)
 have c4 : w5.cell? ⟨w.heap.size, 4, none⟩ = some (.int .u32 (s4 : Nat)) := by rw [<- S4.out]; exact A5.out.1.st.cell (by rw [Ls.out]; omega)
 have c5 : w5.cell? ⟨w.heap.size, 5, none⟩ = some (.int .u32 (s5 : Nat)) := by rw [<- S5.out]; exact A5.out.1.st.cell (by rw [Ls.out]; omega)
 have c6 : w5.cell? ⟨w.heap.size, 6, none⟩ = some (.int .u32 (s6 : Nat)) := by rw [<- S6.out]; exact A5.out.1.st.cell (by rw [Ls.out]; omega)
 have c7 : w5.cell? ⟨w.heap.size, 7, none⟩ = some (.int .u32 (s7 : Nat)) := by rw [<- S7.out]; exact A5.out.1.st.cell (by rw [Ls.out]; omega)
 go_quiet (fail)
 go_wp2
 go_loopw [35, 6, 7, 8, 9, 10, 11, 12, 13] (fun ti ta tb tc td te tf tg th wr => ∃ n a b c d e f g h : Nat, n <= 64 /\ ti = .int .i64 n /\ ta = .int .u32 a /\ tb = .int .u32 b /\ tc = .int .u32 c /\ td = .int .u32 d /\ te = .int .u32 e /\ tf = .int .u32 f /\ tg = .int .u32 g /\ th = .int .u32 h /\ Hid (Rnd w wr g5 s W n a b c d e f g h)) (fun ti _ _ _ _ _ _ _ _ _ => 64 - (intOf ti).toNat)
 case atStart =>
  refine ⟨0, s0, s1, s2, s3, s4, s5, s6, s7, by omega, rfl, rfl, rfl, rfl, rfl, rfl, rfl, rfl, rfl, ?_⟩
  refine ⟨A5.out.1.drewN _, ?_, ?_⟩
  . rw [<- S0.out, <- S1.out, <- S2.out, <- S3.out, <- S4.out, <- S5.out, <- S6.out, <- S7.out]; rfl
  . have := Ok.ofL hS.out
    rw [<- S0.out, <- S1.out, <- S2.out, <- S3.out, <- S4.out, <- S5.out, <- S6.out, <- S7.out]; exact this
 case round =>
  clear c0 c1 c2 c3 c4 c5 c6 c7
  obtain ⟨n, a, b', c, d, e, f, g, h, hn, rfl, rfl, rfl, rfl, rfl, rfl, rfl, rfl, rfl, HR⟩ := hrel
  by_cases hlt : n < 64
  . have ha : a < 4294967296 := HR.out.ok.1
    have he : e < 4294967296 := HR.out.ok.2.2.2.2.1
    have hf : f < 4294967296 := HR.out.ok.2.2.2.2.2.1
    have hg : g < 4294967296 := HR.out.ok.2.2.2.2.2.2.1
    have hb' : b' < 4294967296 := HR.out.ok.2.1
    have hc : c < 4294967296 := HR.out.ok.2.2.1
    have i1 : (0 : Int) <= (n : Int) := by omega
    have i2 : (n : Int) < 64 := by omega
    obtain ⟨kt, KT⟩ := nm (Gs.K.getD n 0)
    obtain ⟨wt, WT⟩ := nm (W.getD n 0)
    have ck : wr.cell? ⟨19, n, none⟩ = some (.int .u32 (kt : Nat)) := by rw [<- KT.out]; exact hK.out.below HR.out.aft.bel h0 n hlt
    have cw : wr.cell? ⟨g5, n, none⟩ = some (.int .u32 (wt : Nat)) := by rw [<- WT.out]; exact HR.out.aft.sch.cell (by rw [N5.out]; exact hlt)
    go_wp2
    go_still_tail 27, (by kernel_rfl)
    still_call (turn_z e 6 6 rfl he (by decide) (by decide) _)
    repeat still_step
    still_call (turn_z e 11 11 rfl he (by decide) (by decide) _)
    repeat still_step
    still_call (turn_z e 25 25 rfl he (by decide) (by decide) _)
    repeat still_step
    rw [sig1_bits he, choice_bits he hf hg, add_wrap, add_wrap, add_wrap, add_wrap]
    obtain ⟨x1, X1⟩ := nm (Gs.t1 ⟨a, b', c, d, e, f, g, h⟩ kt wt)
    have X1' : Gs.add (Gs.add (Gs.add (Gs.add h (sig1 e)) (Gs.choice e f g)) kt) wt = x1 := X1.out
    rw [X1']
    clear X1'
    refine wpStill_nil ?_
    generalize hw4 : ({ heap := wr.heap, tape := wr.tape, drawn := wr.drawn + 1, os := wr.os, output := wr.output } : World) = w4
    have hw5 : wr.drewN 1 = w4 := hw4
    have H4 : Hid (Aft w w4 g5 s W) := by rw [<- hw5]; exact HR.out.aft.drewN 1
    clear hw4 hw5 ck cw
    go_wp2_with (first
     | (go_at_call 158; (first | refine (turn_z a 2 2 rfl ha (by decide) (by decide) _).mono ?_ | refine (turn_z a 13 13 rfl ha (by decide) (by decide) _).mono ?_ | refine (turn_z a 22 22 rfl ha (by decide) (by decide) _).mono ?_); rintro e' w' ⟨rfl, h9⟩; rw [h9]; clear h9))
    go_roundw
    case rel =>
     refine ⟨n + 1, Gs.add x1 (Gs.t2 ⟨a, b', c, d, e, f, g, h⟩), a, b', c, Gs.add d x1, e, f, g, by omega, by go_num, ?_, rfl, rfl, rfl, ?_, rfl, rfl, rfl, ?_⟩
     . rw [sig0_bits ha, most_bits ha hb' hc, add_mod, add_mod]
       rfl
     . rw [add_mod]
     . refine ⟨H4.out, ?_, ?_⟩
       . show Gs.step (Gs.rounds W (Gs.ofL s) n) (Gs.K.getD n 0) (W.getD n 0) = _
         rw [HR.out.eq, KT.out, WT.out, <- X1.out]
         rfl
       . have := HR.out.ok.step kt wt
         rw [<- X1.out]
         exact this
    case measure => simp [intOf]; omega
  . have en0 : n = 64 := by omega
    have en : Hid (n = 64) := en0
    have i2 : ¬ ((n : Int) < 64) := by omega
    clear en0
    have c0 : wr.cell? ⟨w.heap.size, 0, none⟩ = some (.int .u32 (s0 : Nat)) := by rw [<- S0.out]; exact HR.out.aft.st.cell (by rw [Ls.out]; omega)
    have c1 : wr.cell? ⟨w.heap.size, 1, none⟩ = some (.int .u32 (s1 : Nat)) := by rw [<- S1.out]; exact HR.out.aft.st.cell (by rw [Ls.out]; omega)
    have c2 : wr.cell? ⟨w.heap.size, 2, none⟩ = some (.int .u32 (s2 : Nat)) := by rw [<- S2.out]; exact HR.out.aft.st.cell (by rw [Ls.out]; omega)
    have c3 : wr.cell? ⟨w.heap.size, 3, none⟩ = some (.int .u32 (s3 : Nat)) := by rw [<- S3.out]; exact HR.out.aft.st.cell (by rw [Ls.out]; omega)
    have c4 : wr.cell? ⟨w.heap.size, 4, none⟩ = some (.int .u32 (s4 : Nat)) := by rw [<- S4.out]; exact HR.out.aft.st.cell (by rw [Ls.out]; omega)
    have c5 : wr.cell? ⟨w.heap.size, 5, none⟩ = some (.int .u32 (s5 : Nat)) := by rw [<- S5.out]; exact HR.out.aft.st.cell (by rw [Ls.out]; omega)
    have c6 : wr.cell? ⟨w.heap.size, 6, none⟩ = some (.int .u32 (s6 : Nat)) := by rw [<- S6.out]; exact HR.out.aft.st.cell (by rw [Ls.out]; omega)
    have c7 : wr.cell? ⟨w.heap.size, 7, none⟩ = some (.int .u32 (s7 : Nat)) := by rw [<- S7.out]; exact HR.out.aft.st.cell (by rw [Ls.out]; omega)
    obtain ⟨m0, M0⟩ := nm (Gs.add s0 a)
    have e0 : ((s0 : Int) + (a : Int)) % 4294967296 = (m0 : Int) := by rw [add_mod, M0.out]
    obtain ⟨m1, M1⟩ := nm (Gs.add s1 b')
    have e1 : ((s1 : Int) + (b' : Int)) % 4294967296 = (m1 : Int) := by rw [add_mod, M1.out]
    obtain ⟨m2, M2⟩ := nm (Gs.add s2 c)
    have e2 : ((s2 : Int) + (c : Int)) % 4294967296 = (m2 : Int) := by rw [add_mod, M2.out]
    obtain ⟨m3, M3⟩ := nm (Gs.add s3 d)
    have e3 : ((s3 : Int) + (d : Int)) % 4294967296 = (m3 : Int) := by rw [add_mod, M3.out]
    obtain ⟨m4, M4⟩ := nm (Gs.add s4 e)
    have e4 : ((s4 : Int) + (e : Int)) % 4294967296 = (m4 : Int) := by rw [add_mod, M4.out]
    obtain ⟨m5, M5⟩ := nm (Gs.add s5 f)
    have e5 : ((s5 : Int) + (f : Int)) % 4294967296 = (m5 : Int) := by rw [add_mod, M5.out]
    obtain ⟨m6, M6⟩ := nm (Gs.add s6 g)
    have e6 : ((s6 : Int) + (g : Int)) % 4294967296 = (m6 : Int) := by rw [add_mod, M6.out]
    obtain ⟨m7, M7⟩ := nm (Gs.add s7 h)
    have e7 : ((s7 : Int) + (h : Int)) % 4294967296 = (m7 : Int) := by rw [add_mod, M7.out]
    have RO : Hid (Arr .u32 185 wr (w.heap.size + 1 + 1) Z8) := HR.out.aft.out
    have RE : Hid (Arr .u32 185 (wr.setRow (w.heap.size + 1 + 1) (cs .u32 [m0, m1, m2, m3, m4, m5, m6, m7])) (w.heap.size + 1 + 1) [m0, m1, m2, m3, m4, m5, m6, m7]) := HR.out.aft.out.setRow _
    have BE : Hid (Below w.heap.size w (wr.setRow (w.heap.size + 1 + 1) (cs .u32 [m0, m1, m2, m3, m4, m5, m6, m7]))) := (Oth.setRow _).below HR.out.aft.bel (by omega)
    have VE : Hid ([m0, m1, m2, m3, m4, m5, m6, m7] = Gs.after s b) := by
     have hr := HR.out.eq
     rw [en.out, W5.out] at hr
     unfold Gs.after
     rw [hr, <- M0.out, <- M1.out, <- M2.out, <- M3.out, <- M4.out, <- M5.out, <- M6.out, <- M7.out, <- S0.out, <- S1.out, <- S2.out, <- S3.out, <- S4.out, <- S5.out, <- S6.out, <- S7.out]
     exact rfl
    clear HR
    go_wp2_with (refine wpList_st0 (t := 185) (l := Z8) (l2 := [m0, m1, m2, m3, m4, m5, m6, m7]) (by rfl) (by rfl) 185 (.tmp 4) (.tmp 130) (by rfl) (by rfl) (by rfl) RO sz53 (by rfl) ?_)
    refine bodyPost_ret (v := .agg (cs .u32 [m0, m1, m2, m3, m4, m5, m6, m7])) (res_arr (by rfl) (by rfl) RE.out und53 sz53) rfl ?_
    exact ⟨_, rfl, VE.out, BE.out⟩
end Go.Proofs.YtfabnnbljkkihaaGreatDoor.Sh
