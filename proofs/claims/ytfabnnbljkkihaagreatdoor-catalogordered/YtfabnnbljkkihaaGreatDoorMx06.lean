import Derived.Test.YtfabnnbljkkihaaGreatDoorMxp
import Derived.Test.YtfabnnbljkkihaaGreatDoorMx04
import Derived.Test.YtfabnnbljkkihaaGreatDoorMx05
import Derived.Deep.RegionHeld
namespace Go.Proofs.YtfabnnbljkkihaaGreatDoor.Sh
open Go.ChangeShapes Go.WideShapes Go.ChangeAt Go.RowKit
set_option linter.unusedVariables false
set_option linter.unusedSimpArgs false
theorem wpList_st1 {ops : Array Oper} {rest : List Oper} {o : Oper} {a : Act} {Q : Exit -> Act -> World -> Prop} {w : World} {k : IntKind} {t : TypeId} {g : Nat} {l l2 : List Nat} (hgd : o.guard = none) (hd : o.dst = none) (ty : TypeId) (x y : Operand)
  (ho : o.op = .store ty x y) (hx : a.eval x = .pointer (some ⟨g, 0, none⟩)) (hy : a.eval y = .agg (cs k l2)) (hr : Hid (Arr k t w g l)) (hi : (Tryz.prog.info? ty).map (·.size) = some l2.length) (hl : l.length = l2.length)
  (h : wpList Tryz.prog ops Q rest a (w.setRow g (cs k l2))) : wpList Tryz.prog ops Q (o :: rest) a w :=
 wpList_st hgd ty x y ho hx hy hr hi hl (by rw [hd]; exact h)
theorem wpList_stc {ops : Array Oper} {rest : List Oper} {o : Oper} {a : Act} {Q : Exit -> Act -> World -> Prop} {w : World} {t : TypeId} {g i : Nat} {l : List Nat} {v : Int} (hgd : o.guard = none) (hd : o.dst = none) (x y : Operand)
  (ho : o.op = .store 5 x y) (hx : a.eval x = .pointer (some ⟨g, i, none⟩)) (hy : a.eval y = .int .u8 v) (hr : Hid (Arr .u8 t w g l)) (hi : i < l.length)
  (h : wpList Tryz.prog ops Q rest a (w.setCell ⟨g, i, none⟩ (.int .u8 v))) : wpList Tryz.prog ops Q (o :: rest) a w := by
 refine wpList_plain hgd fun K hK => ?_
 have c := hr.out.cell hi
 have f := hr.out.frozen i
 have h2 := hK _ _ h
 unfold Oper.wp execOp
 simp only [ho, hx, hy, Instr.storeAt, Instr.sureAddr, Sem.run_bind, Sem.run_pure, Result.andThen_ok]
 have hs : (storeVar 5 ⟨g, i, none⟩ (.int .u8 v)).run Tryz.prog w = .ok () (w.setCell ⟨g, i, none⟩ (.int .u8 v)) := by
  simp [go_sem, storeVar, c, f]
 rw [hs]
 show K (a.put o.dst undef) _
 rw [hd]
 exact h2
theorem two (w : World) (o1 o2 : Obj) : ((w.alloc o1).alloc o2).heap[w.heap.size]? = some o1 /\ ((w.alloc o1).alloc o2).heap[w.heap.size + 1]? = some o2 := by
 have e1 : (w.alloc o1).heap.size = w.heap.size + 1 := by simp
 refine ⟨?_, ?_⟩
 . rw [Below.heap_alloc _ _ _ (by omega), heap_alloc_new]
 . rw [<- e1, heap_alloc_new]
theorem below2 (w : World) (o1 o2 : Obj) : Below w.heap.size w ((w.alloc o1).alloc o2) := by
 have h1 := (Below.refl w.heap.size w).alloc (Nat.le_refl _) o1
 exact h1.alloc h1.size o2
def Zb64 : List Nat := List.replicate 64 0
structure Cnt (w wr : World) (l : List Nat) : Prop where
 st : Arr .u8 188 wr w.heap.size l
 out : Arr .u8 188 wr (w.heap.size + 1) Zb64
 bel : Below w.heap.size w wr
theorem countN_length (b : List Nat) (c n : Nat) : (Gs.countN b c n).length = b.length := by
 induction n with
 | zero => rfl
 | succ n ih => simp [Gs.countN, ih]
theorem Cnt.set {w wr : World} {l : List Nat} (h : Cnt w wr l) (i x : Nat) : Cnt w (wr.setCell ⟨w.heap.size, i, none⟩ (.int .u8 (x : Nat))) (l.set i x) := by
 have o : Oth w.heap.size wr (wr.setCell ⟨w.heap.size, i, none⟩ (.int .u8 (x : Nat))) := (Oth.refl _ wr).setCell i _
 exact ⟨h.st.set i x, h.out.oth o (by omega), o.below h.bel (Nat.le_refl _)⟩
set_option maxRecDepth 20000 in
set_option maxHeartbeats 2000000 in
theorem counting_n (b : List Nat) (len : Nat) (hb : b.length = 64) (hl : len < 9223372036854775808) (w : World) :
  Calls Tryz.prog 148 #[.agg (cs .u8 b),.int .i64 (len : Int)] w fun e w' => ∃ l, e = .returned (.agg (cs .u8 l)) /\ Hid (l = Gs.counting b len /\ Below w.heap.size w w') := by
 have Lb : Hid (b.length = 64) := hb
 clear hb
 obtain ⟨c, C⟩ := nm (len * 8 % 18446744073709551616)
 have ec : IntKind.u64.wrap ((len : Int) * 8) = (c : Int) := by
  have h : IntKind.u64.wrap ((len : Int) * 8) = ((len : Int) * 8) % 18446744073709551616 := by simp [IntKind.wrap, IntKind.bits, IntKind.signed]
  rw [h, <- C.out]; omega
 go_enter Tryz.func148, Tryz.ntmps148
 go_wp2
 go_loopw [6, 5] (fun ti tc wr => ∃ n i x : Nat, i + n = 63 /\ n <= 8 /\ ti = .int .i64 i /\ tc = .int .u64 x /\ Hid (x = c / 256 ^ n /\ Cnt w wr (Gs.countN b c n))) (fun ti _ _ => (intOf ti).toNat)
 case atStart => exact ⟨0, 63, c, rfl, by omega, rfl, rfl, by simp, (two w _ _).1, (two w _ _).2, below2 w _ _⟩
 case round =>
  obtain ⟨n, i, x, hi, hn, rfl, rfl, HC⟩ := hrel
  by_cases hlt : n < 8
  . have i1 : (0 : Int) <= (i : Int) := by omega
    have i2 : (i : Int) < 64 := by omega
    have i3 : (56 : Int) <= (i : Int) := by omega
    obtain ⟨z, hz⟩ : ∃ z : Nat, wr.cell? ⟨w.heap.size, i, none⟩ = some (.int .u8 z) := ⟨_, HC.out.2.st.cell (by rw [countN_length, Lb.out]; omega)⟩
    have f0 : wr.frozen? ⟨w.heap.size, i, none⟩ = false := HC.out.2.st.frozen i
    go_wp2
    go_roundw
    case rel =>
     refine ⟨n + 1, i - 1, x / 256, by omega, by omega, by rw [show ((i : Int) - 1) = ((i - 1 : Nat) : Int) from by omega], by simp, ?_, ?_⟩
     . rw [HC.out.1, Nat.div_div_eq_div_mul, Nat.pow_succ]
     . have h := HC.out.2.set i (x % 256)
       have e : Gs.countN b c (n + 1) = (Gs.countN b c n).set i (x % 256) := by
        show (Gs.countN b c n).set (63 - n) (c / 256 ^ n % 256) = _
        rw [HC.out.1, show 63 - n = i from by omega]
       rw [e]
       have e2 : ((x % 256 : Nat) : Int) = (x : Int) % 256 := by simp
       rw [<- e2]
       exact h
    case measure => simp [intOf]; omega
  . have i3 : ¬ ((56 : Int) <= (i : Int)) := by omega
    have en : n = 8 := by omega
    subst en
    obtain ⟨l, Hl⟩ := nm (Gs.countN b c 8)
    have N : Hid (l.length = 64) := by rw [<- Hl.out, countN_length]; exact Lb.out
    have HC2 : Hid (Cnt w wr l) := by rw [<- Hl.out]; exact HC.out.2
    have R1 : Hid (Rng .u8 wr w.heap.size 0 l) := HC2.out.st.rng
    have R2 : Hid (Arr .u8 188 wr (w.heap.size + 1) Zb64) := HC2.out.out
    have RE : Hid (Arr .u8 188 (wr.setRow (w.heap.size + 1) (cs .u8 l)) (w.heap.size + 1) l) := HC2.out.out.setRow l
    have BE : Hid (Below w.heap.size w (wr.setRow (w.heap.size + 1) (cs .u8 l))) := (Oth.setRow _).below HC2.out.bel (by omega)
    have VE : Hid (l = Gs.counting b len) := by
     show l = Gs.countN b (len * 8 % 18446744073709551616) 8
     rw [C.out, Hl.out]
    clear HC HC2
    go_wp2_with (first | (refine wpList_ld (by rfl) 188 (.tmp 2) (by rfl) (by rfl) R1 und56 (by rw [N.out]; exact sz56) ?_) | (refine wpList_st1 (t := 188) (l := Zb64) (by rfl) (by rfl) 188 (.tmp 4) (.tmp 20) (by rfl) (by rfl) (by rfl) R2 (by rw [N.out]; exact sz56) (by rw [N.out]; rfl) ?_))
    refine bodyPost_ret (v := .agg (cs .u8 l)) (res_arr (by rfl) (by rfl) RE.out und56 (by rw [N.out]; exact sz56)) rfl ?_
    exact ⟨l, rfl, VE.out, BE.out⟩
theorem index_arr (s : List Nat) (hs : s.length = 8) (k : Nat) (hk : k < 8) (w : World) : (Instr.index 185 (.agg (cs .u32 s)) (.int .i64 (k : Int))).run Tryz.prog w = .ok (.int .u32 ((s.getD k 0 : Nat) : Int)) w := by
 have h1 : (0 : Int) <= (k : Int) /\ (k : Int) < 8 := by omega
 have h2 : (cs .u32 s)[k]? = some (.int .u32 ((s.getD k 0 : Nat) : Int)) := by
  have : k < s.length := by omega
  simp [cs, wv, List.getD, this]
 simp [Instr.index, run_underlying Tryz.underlying185, asIntOf, part, go_sem, h1, h2]
 intro h
 omega
def Zb32 : List Nat := List.replicate 32 0
structure Dig (w wr : World) (s l : List Nat) : Prop where
 st : Arr .u32 185 wr w.heap.size s
 out : Arr .u8 166 wr (w.heap.size + 1) Zb32
 acc : Arr .u8 166 wr (w.heap.size + 1 + 1) (ext l 32)
 bel : Below w.heap.size w wr
theorem ext_set' {l : List Nat} {k n x : Nat} (h : l.length = k) (hk : k < n) : (ext l n).set k x = ext (l ++ [x]) n := by
 subst h
 obtain ⟨m, hm⟩ : ∃ m, n - l.length = m + 1 := ⟨n - l.length - 1, by omega⟩
 have hm2 : n - (l.length + 1) = m := by omega
 simp [ext, hm, hm2, List.replicate_succ]
theorem Dig.snoc {w wr : World} {s l : List Nat} {k x : Nat} (h : Dig w wr s l) (hl : l.length = k) (hk : k < 32) :
  Dig w (wr.setCell ⟨w.heap.size + 1 + 1, k, none⟩ (.int .u8 (x : Int))) s (l ++ [x]) := by
 have o : Oth (w.heap.size + 1 + 1) wr (wr.setCell ⟨w.heap.size + 1 + 1, k, none⟩ (.int .u8 (x : Int))) := (Oth.refl _ wr).setCell k _
 refine ⟨h.st.oth o (by omega), h.out.oth o (by omega), ?_, o.below h.bel (by omega)⟩
 rw [<- ext_set' hl hk]
 exact h.acc.set k x
theorem digestN_length (s : List Nat) (k : Nat) : (Gs.digestN s k).length = 4 * k := by
 induction k with
 | zero => rfl
 | succ k ih => simp [Gs.digestN, ih, Gs.bytesW]; omega
set_option maxRecDepth 20000 in
set_option maxHeartbeats 2000000 in
theorem digest_n (s : List Nat) (hs : s.length = 8) (w : World) :
  Calls Tryz.prog 149 #[.agg (cs .u32 s)] w fun e w' => ∃ l, e = .returned (.agg (cs .u8 l)) /\ Hid (l = Gs.digest s /\ Below w.heap.size w w') := by
 have Ls : Hid (s.length = 8) := hs
 have R1 : ∀ o2 o3, Hid (Rng .u32 (((w.alloc (.cells (cs .u32 s) 185)).alloc o2).alloc o3) w.heap.size 0 s) := fun o2 o3 => Arr.rng (k := .u32) (t := 185) (three w _ o2 o3).1
 clear hs
 go_enter Tryz.func149, Tryz.ntmps149
 go_wp2_with (refine wpList_ld (by rfl) 185 (.tmp 1) (by rfl) (by rfl) (R1 _ _) und53 (by rw [Ls.out]; exact sz53) ?_)
 clear R1
 go_loopw [7] (fun ti wr => ∃ k : Nat, k <= 8 /\ ti = .int .i64 k /\ Hid (Dig w wr s (Gs.digestN s k))) (fun ti _ => 8 - (intOf ti).toNat)
 case atStart => exact ⟨0, by omega, rfl, (three w _ _ _).1, (three w _ _ _).2.1, (three w _ _ _).2.2, below3 w _ _ _⟩
 case round =>
  obtain ⟨k, hk, rfl, HK⟩ := hrel
  by_cases hlt : k < 8
  . have i1 : (0 : Int) <= (k : Int) := by omega
    have i2 : (k : Int) < 8 := by omega
    obtain ⟨x, X⟩ := nm (s.getD k 0)
    have IX : ∀ w', (Instr.index 185 (.agg (cs .u32 s)) (.int .i64 (k : Int))).run Tryz.prog w' = .ok (.int .u32 (x : Int)) w' := fun w' => by rw [<- X.out]; exact index_arr s Ls.out k hlt w'
    obtain ⟨p, hp⟩ : ∃ p, p = 4 * k := ⟨_, rfl⟩
    have hp1 : (4 : Int) * (k : Int) = (p : Int) := by omega
    have hp2 : p + 3 < 32 := by omega
    have q0 : IntKind.i64.wrap (p : Int) = (p : Int) := by rw [IntKind.wrap_i64]; omega
    obtain ⟨l, Hl⟩ := nm (Gs.digestN s k)
    have LL : Hid (l.length = p) := by rw [<- Hl.out, digestN_length, hp]; exact rfl
    rw [Hl.out] at HK
    have HP : Hid (p = 4 * k) := hp
    clear hp
    obtain ⟨v0, V0⟩ := nm (x / 16777216 % 256)
    obtain ⟨v1, V1⟩ := nm (x / 65536 % 256)
    obtain ⟨v2, V2⟩ := nm (x / 256 % 256)
    obtain ⟨v3, V3⟩ := nm (x % 256)
    have e0 : (x : Int) / 16777216 % 256 = (v0 : Int) := by rw [<- V0.out]; omega
    have e1 : (x : Int) / 65536 % 256 = (v1 : Int) := by rw [<- V1.out]; omega
    have e2 : (x : Int) / 256 % 256 = (v2 : Int) := by rw [<- V2.out]; omega
    have e3 : (x : Int) % 256 = (v3 : Int) := by rw [<- V3.out]; omega
    have D0 : Hid (Dig w wr s l) := HK.out
    obtain ⟨w1, H1⟩ := nm (wr.setCell ⟨w.heap.size + 1 + 1, p, none⟩ (.int .u8 (v0 : Int)))
    have D1 : Hid (Dig w w1 s (l ++ [v0])) := by rw [<- H1.out]; exact D0.out.snoc LL.out (by omega)
    obtain ⟨w2, H2⟩ := nm (w1.setCell ⟨w.heap.size + 1 + 1, p + 1, none⟩ (.int .u8 (v1 : Int)))
    have D2 : Hid (Dig w w2 s (l ++ [v0] ++ [v1])) := by rw [<- H2.out]; exact D1.out.snoc (by simp [LL.out]) (by omega)
    obtain ⟨w3, H3⟩ := nm (w2.setCell ⟨w.heap.size + 1 + 1, p + 2, none⟩ (.int .u8 (v2 : Int)))
    have D3 : Hid (Dig w w3 s (l ++ [v0] ++ [v1] ++ [v2])) := by rw [<- H3.out]; exact D2.out.snoc (by simp [LL.out]) (by omega)
    obtain ⟨w4, H4⟩ := nm (w3.setCell ⟨w.heap.size + 1 + 1, p + 3, none⟩ (.int .u8 (v3 : Int)))
    have D4 : Hid (Dig w w4 s (l ++ [v0] ++ [v1] ++ [v2] ++ [v3])) := by rw [<- H4.out]; exact D3.out.snoc (by simp [LL.out]) (by omega)
    have A0 : Hid (Arr .u8 166 wr (w.heap.size + 1 + 1) (ext l 32)) := D0.out.acc
    have A1 : Hid (Arr .u8 166 w1 (w.heap.size + 1 + 1) (ext (l ++ [v0]) 32)) := D1.out.acc
    have A2 : Hid (Arr .u8 166 w2 (w.heap.size + 1 + 1) (ext (l ++ [v0] ++ [v1]) 32)) := D2.out.acc
    have A3 : Hid (Arr .u8 166 w3 (w.heap.size + 1 + 1) (ext (l ++ [v0] ++ [v1] ++ [v2]) 32)) := D3.out.acc
    have N0 : Hid ((ext l 32).length = 32) := ext_length _ _ (by rw [LL.out]; omega)
    have N1 : Hid ((ext (l ++ [v0]) 32).length = 32) := ext_length _ _ (by simp [LL.out]; omega)
    have N2 : Hid ((ext (l ++ [v0] ++ [v1]) 32).length = 32) := ext_length _ _ (by simp [LL.out]; omega)
    have N3 : Hid ((ext (l ++ [v0] ++ [v1] ++ [v2]) 32).length = 32) := ext_length _ _ (by simp [LL.out]; omega)
    clear HK D0 D1 D2 D3
    go_wp2_with (first
     | (refine wpList_stc (by rfl) (by rfl) (.tmp 16) (.tmp 15) (by rfl) (by rfl) (by rfl) A0 (by rw [N0.out]; omega) ?_; rw [e0, H1.out])
     | (refine wpList_stc (by rfl) (by rfl) (.tmp 23) (.tmp 22) (by rfl) (by rfl) (by rfl) A1 (by rw [N1.out]; omega) ?_; rw [e1, H2.out])
     | (refine wpList_stc (by rfl) (by rfl) (.tmp 30) (.tmp 29) (by rfl) (by rfl) (by rfl) A2 (by rw [N2.out]; omega) ?_; rw [e2, H3.out])
     | (refine wpList_stc (by rfl) (by rfl) (.tmp 36) (.tmp 35) (by rfl) (by rfl) (by rfl) A3 (by rw [N3.out]; omega) ?_; rw [e3, H4.out]))
    go_roundw
    case rel =>
     refine ⟨k + 1, by omega, by go_num, ?_⟩
     have e : Gs.digestN s (k + 1) = l ++ [v0] ++ [v1] ++ [v2] ++ [v3] := by
      show Gs.digestN s k ++ Gs.bytesW (s.getD k 0) = _
      rw [Hl.out, X.out, <- V0.out, <- V1.out, <- V2.out, <- V3.out]
      simp [Gs.bytesW]
     rw [e]
     exact D4.out
    case measure => simp [intOf]; omega
  . have i2 : ¬ ((k : Int) < 8) := by omega
    have ek : k = 8 := by omega
    subst ek
    obtain ⟨l, Hl⟩ := nm (Gs.digestN s 8)
    have N : Hid (l.length = 32) := by rw [<- Hl.out, digestN_length]; exact rfl
    rw [Hl.out] at HK
    have e1 : ext l 32 = l := by simp [ext, N.out]
    have R1 : Hid (Rng .u8 wr (w.heap.size + 1 + 1) 0 l) := by have := HK.out.acc; rw [e1] at this; exact this.rng
    have R2 : Hid (Arr .u8 166 wr (w.heap.size + 1) Zb32) := HK.out.out
    have RE : Hid (Arr .u8 166 (wr.setRow (w.heap.size + 1) (cs .u8 l)) (w.heap.size + 1) l) := HK.out.out.setRow l
    have BE : Hid (Below w.heap.size w (wr.setRow (w.heap.size + 1) (cs .u8 l))) := (Oth.setRow _).below HK.out.bel (by omega)
    have VE : Hid (l = Gs.digest s) := Hl.out.symm
    clear HK e1
    go_wp2_with (first | (refine wpList_ld (by rfl) 166 (.tmp 3) (by rfl) (by rfl) R1 und25 (by rw [N.out]; exact sz25) ?_) | (refine wpList_st1 (t := 166) (l := Zb32) (by rfl) (by rfl) 166 (.tmp 2) (.tmp 38) (by rfl) (by rfl) (by rfl) R2 (by rw [N.out]; exact sz25) (by rw [N.out]; rfl) ?_))
    refine bodyPost_ret (v := .agg (cs .u8 l)) (res_arr (by rfl) (by rfl) RE.out und25 (by rw [N.out]; exact sz25)) rfl ?_
    exact ⟨l, rfl, VE.out, BE.out⟩
theorem after_length (s b : List Nat) : (Gs.after s b).length = 8 := rfl
theorem after_lt (s b : List Nat) : Lt32 (Gs.after s b) := by
 intro x hx
 simp only [Gs.after, Gs.addL, List.mem_cons, List.not_mem_nil, or_false] at hx
 rcases hx with h | h | h | h | h | h | h | h <;> (rw [h]; exact Gs.add_lt _ _)
theorem wordsN_length (A : List Nat) (n : Nat) : (Gs.wordsN A n).length = 8 := by
 cases n <;> rfl
theorem wordsN_lt (A : List Nat) (n : Nat) : Lt32 (Gs.wordsN A n) := by
 cases n with
 | zero =>
   have h : Lt32 Gs.start := by unfold Lt32; decide
   exact h
 | succ n => exact after_lt _ _
theorem wordsN_app (A x : List Nat) (n : Nat) (h : 64 * n <= A.length) : Gs.wordsN (A ++ x) n = Gs.wordsN A n := by
 induction n with
 | zero => rfl
 | succ n ih =>
   have e : ((A ++ x).drop (64 * n)).take 64 = (A.drop (64 * n)).take 64 := by
    rw [List.drop_append_of_le_length (by omega), List.take_append_of_le_length (by simp; omega)]
   show Gs.after (Gs.wordsN (A ++ x) n) _ = Gs.after (Gs.wordsN A n) _
   rw [ih (by omega), e]
def tl (A : List Nat) : List Nat := A.drop (64 * (A.length / 64))
theorem tl_length (A : List Nat) : (tl A).length = A.length % 64 := by
 simp [tl]
 omega
theorem tl_app (A x : List Nat) (h : A.length % 64 + x.length < 64) : tl (A ++ x) = tl A ++ x := by
 have e : (A ++ x).length / 64 = A.length / 64 := by simp; omega
 unfold tl
 rw [e, List.drop_append_of_le_length (by omega)]
theorem words_app (A x : List Nat) (h : A.length % 64 + x.length < 64) : Gs.words (A ++ x) = Gs.words A := by
 have e : (A ++ x).length / 64 = A.length / 64 := by simp; omega
 unfold Gs.words
 rw [e, wordsN_app _ _ _ (by omega)]
theorem rest_eq (A : List Nat) : Gs.rest A = Gs.pad (tl A) := rfl
theorem full_app (A x : List Nat) (h : A.length % 64 + x.length = 64) : Gs.words (A ++ x) = Gs.after (Gs.words A) (tl A ++ x) /\ tl (A ++ x) = [] := by
 have e : (A ++ x).length / 64 = A.length / 64 + 1 := by simp; omega
 refine ⟨?_, ?_⟩
 . unfold Gs.words
   rw [e]
   show Gs.after (Gs.wordsN (A ++ x) (A.length / 64)) _ = _
   rw [wordsN_app _ _ _ (by omega), List.drop_append_of_le_length (by omega), List.take_of_length_le (by simp; omega)]
   rfl
 . apply List.eq_nil_of_length_eq_zero
   rw [tl_length]
   simp
   omega
theorem pad_length (l : List Nat) (h : l.length <= 64) : (Gs.pad l).length = 64 := by simp [Gs.pad]; omega
theorem pad_full (l : List Nat) (h : l.length = 64) : Gs.pad l = l := by simp [Gs.pad, h]
theorem rest_length (A : List Nat) : (Gs.rest A).length = 64 := pad_length _ (by rw [show A.drop (64 * (A.length / 64)) = tl A from rfl, tl_length]; omega)
theorem pad_lt {l : List Nat} (h : ∀ x ∈ l, x < 256) : ∀ x ∈ Gs.pad l, x < 256 := by
 intro x hx
 rcases List.mem_append.1 hx with h1 | h1
 . exact h x h1
 . have := List.eq_of_mem_replicate h1; omega
theorem rest_lt {A : List Nat} (h : ∀ x ∈ A, x < 256) : ∀ x ∈ Gs.rest A, x < 256 := pad_lt fun x hx => h x (List.mem_of_mem_drop hx)
theorem words_length (A : List Nat) : (Gs.words A).length = 8 := wordsN_length _ _
theorem words_lt (A : List Nat) : Lt32 (Gs.words A) := wordsN_lt _ _
def hcells (ws rs : List Nat) (n : Nat) : List Value := ws.map (wv .u32) ++ rs.map (wv .u8) ++ [.int .i64 (n : Int)]
structure Hsh (w : World) (g : Nat) (ws rs : List Nat) (n : Nat) : Prop where
 blk : w.heap[g]? = some (.cells (hcells ws rs n).toArray 190 (0, 0))
 l1 : ws.length = 8
 l2 : rs.length = 64
section
variable {w w' : World} {g n : Nat} {ws rs : List Nat}
theorem Hsh.cellv (h : Hsh w g ws rs n) (i : Nat) : w.cell? ⟨g, i, none⟩ = (hcells ws rs n)[i]? := by
 have := h.blk
 simp [World.cell?, this]
theorem Hsh.frozen (h : Hsh w g ws rs n) (i : Nat) : w.frozen? ⟨g, i, none⟩ = false := by
 have := h.blk
 simp [World.frozen?, this]
theorem Hsh.lt (h : Hsh w g ws rs n) : g < w.heap.size := (gl h.blk)
theorem Hsh.len (h : Hsh w g ws rs n) : w.cell? ⟨g, 72, none⟩ = some (.int .i64 (n : Int)) := by
 rw [h.cellv, hcells, List.getElem?_append_right (by simp [h.l1, h.l2])]
 simp [h.l1, h.l2]
theorem Hsh.wsR (h : Hsh w g ws rs n) : Rng .u32 w g 0 ws := by
 intro j v hv
 have hj : j < ws.length := by have := (List.getElem?_eq_some_iff.1 hv).1; simpa using this
 rw [h.cellv, hcells, List.append_assoc, List.getElem?_append_left (by simp; omega), Nat.zero_add]
 exact hv
theorem Hsh.rsR (h : Hsh w g ws rs n) : Rng .u8 w g 8 rs := by
 intro j v hv
 have hj : j < rs.length := by have := (List.getElem?_eq_some_iff.1 hv).1; simpa using this
 rw [h.cellv, hcells, List.append_assoc, List.getElem?_append_right (by simp [h.l1]), List.getElem?_append_left (by simp [h.l1]; omega)]
 have : 8 + j - (ws.map (wv .u32)).length = j := by simp [h.l1]
 rw [this]
 exact hv
theorem Hsh.there (h : Hsh w g ws rs n) (o m : Nat) (hm : o + m <= 73) : w.there g o m := by
 intro j hj
 refine ⟨?_, h.frozen _⟩
 rw [h.cellv]
 have : o + j < (hcells ws rs n).length := by simp [hcells, h.l1, h.l2]; omega
 simp [this]
theorem Hsh.oth {j : Nat} (h : Hsh w g ws rs n) (hb : Oth j w w') (hg : g ≠ j) : Hsh w' g ws rs n := ⟨(hb.block g hg).trans h.blk, h.l1, h.l2⟩
theorem Hsh.below {B : Nat} (h : Hsh w g ws rs n) (hb : Below B w w') (hg : g < B) : Hsh w' g ws rs n := ⟨(hb.block g hg).trans h.blk, h.l1, h.l2⟩
theorem Hsh.drewN (h : Hsh w g ws rs n) (q : Nat) : Hsh (w.drewN q) g ws rs n := ⟨h.blk, h.l1, h.l2⟩
end
structure HS (w : World) (g : Nat) (A : List Nat) : Prop where
 h : Hsh w g (Gs.words A) (Gs.rest A) A.length
 lt : ∀ x ∈ A, x < 256
structure But (g : Nat) (w w' : World) : Prop where
 os : w'.os = w.os
 tape : w'.tape = w.tape
 output : w'.output = w.output
 size : w.heap.size <= w'.heap.size
 block : ∀ k, k < w.heap.size -> k ≠ g -> w'.heap[k]? = w.heap[k]?
theorem But.refl (g : Nat) (w : World) : But g w w := ⟨rfl, rfl, rfl, Nat.le_refl _, fun _ _ _ => rfl⟩
theorem But.trans {g : Nat} {a b c : World} (h : But g a b) (k : But g b c) : But g a c :=
 ⟨k.os.trans h.os, k.tape.trans h.tape, k.output.trans h.output, Nat.le_trans h.size k.size, fun i h1 h2 => (k.block i (Nat.lt_of_lt_of_le h1 h.size) h2).trans (h.block i h1 h2)⟩
theorem But.oth {g : Nat} {a b : World} (h : Oth g a b) : But g a b := ⟨h.os, h.tape, h.output, Nat.le_of_eq h.size.symm, fun k _ hk => h.block k hk⟩
theorem But.ofBelow {g : Nat} {a b : World} (h : Below a.heap.size a b) : But g a b := ⟨h.os, h.tape, h.output, h.size, fun k hk _ => h.block k hk⟩
theorem But.below {B g : Nat} {w0 w w' : World} (hb : Below B w0 w) (h : But g w w') (hg : B <= g) (hs : B <= w.heap.size) : Below B w0 w' :=
 hb.trans ⟨h.os, h.tape, h.output, h.size, fun k hk => h.block k (Nat.lt_of_lt_of_le hk hs) (by omega)⟩
theorem But.drewN {g : Nat} {a w : World} (h : But g a w) (n : Nat) : But g a (w.drewN n) := h.trans ⟨rfl, rfl, rfl, Nat.le_refl _, fun _ _ _ => rfl⟩
theorem But.sln {g : Nat} {w w' : World} {a : Option Addr} {n : Nat} {l : List Nat} (h : But g w w') (s : Sln w a n l) (hg : ∀ b off, l ≠ [] -> a = some ⟨b, off, none⟩ -> b ≠ g) : Sln w' a n l := by
 refine ⟨s.len, s.sli.1, s.sli.2.1, ?_⟩
 by_cases h0 : l = []
 . exact .inl h0
 . obtain ⟨b, off, rfl, hl, hr⟩ := s.sli.2.2.resolve_left h0
   refine .inr ⟨b, off, rfl, Nat.lt_of_lt_of_le hl h.size, fun i hi => ?_⟩
   rw [World.cell?_of_block (w := w) (h.block b hl (hg b off h0 rfl))]
   exact hr i hi
theorem start_n (w : World) : Calls Tryz.prog 146 #[] w fun e w' => e = .returned (.agg (cs .u32 Gs.start)) /\ Hid (Below w.heap.size w w') := by
 have R0 : Hid (Arr .u32 185 (w.alloc (.cells (cs .u32 Z8) 185)) w.heap.size Z8) := Arr.new w .u32 185 Z8
 have RE : Hid (Arr .u32 185 ((w.alloc (.cells (cs .u32 Z8) 185)).setRow w.heap.size (cs .u32 Gs.start)) w.heap.size Gs.start) := R0.out.setRow _
 have BE : Hid (Below w.heap.size w ((w.alloc (.cells (cs .u32 Z8) 185)).setRow w.heap.size (cs .u32 Gs.start))) := (Oth.setRow _).below ((Below.refl _ _).alloc (Nat.le_refl _) _) (Nat.le_refl _)
 go_enter Tryz.func146, Tryz.ntmps146
 go_wp2_with (refine wpList_st0 (t := 185) (l := Z8) (l2 := Gs.start) (by rfl) (by rfl) 185 (.tmp 0) (.tmp 1) (by rfl) (by rfl) (by rfl) R0 sz53 (by rfl) ?_)
 refine bodyPost_ret (v := .agg (cs .u32 Gs.start)) (res_arr (by rfl) (by rfl) RE.out und53 sz53) rfl ?_
 exact ⟨rfl, BE.out⟩
theorem built58 : Tryz.prog.built 190 [(0, .agg (cs .u32 Gs.start))] = some (hcells Gs.start (Gs.pad []) 0).toArray := by kernel_rfl
theorem wpList_new {ops : Array Oper} {rest : List Oper} {o : Oper} {a : Act} {w : World} {Q : Exit -> Act -> World -> Prop} (hg : o.guard = none) (x : Operand) (ho : o.op = .build 190 #[(0, x)]) (hx : a.eval x = .agg (cs .u32 Gs.start))
  (h : wpList Tryz.prog ops Q rest (a.put o.dst (.agg (hcells Gs.start (Gs.pad []) 0).toArray)) w) : wpList Tryz.prog ops Q (o :: rest) a w := by
 have e : Tryz.prog.built 190 ((#[(0, x)] : Array (Nat × Operand)).map fun (i, x) => (i, a.eval x)).toList = some (hcells Gs.start (Gs.pad []) 0).toArray := by
  rw [<- built58]
  simp [hx]
 refine wpList_build hg 190 #[(0, x)] ho (by rw [e]; rfl) ?_
 rw [e]
 exact h
theorem HS.new (w : World) : HS (w.alloc (.cells (hcells Gs.start (Gs.pad []) 0).toArray 190)) w.heap.size [] := ⟨⟨heap_alloc_new w _, rfl, rfl⟩, by simp⟩
theorem new_n (w : World) : Calls Tryz.prog 125 #[] w fun e w' => ∃ g, e = .returned (.pointer (some ⟨g, 0, none⟩)) /\ Hid (w.heap.size <= g /\ HS w' g [] /\ Below w.heap.size w w') := by
 go_enter Tryz.func125, Tryz.ntmps125
 go_wp2_with (first
  | (go_at_call 146; refine (start_n _).mono ?_; rintro e w1 ⟨rfl, B1⟩)
  | (refine wpList_new (by rfl) (.tmp 1) (by rfl) (by rfl) ?_))
 go_ret
 exact ⟨_, rfl, B1.out.size, HS.new w1, B1.out.alloc B1.out.size _⟩
end Go.Proofs.YtfabnnbljkkihaaGreatDoor.Sh
