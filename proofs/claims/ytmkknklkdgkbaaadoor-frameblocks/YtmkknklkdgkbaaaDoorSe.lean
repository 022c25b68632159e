/- What 'counting', 'digest' and 'start' do to a machine, for all blocks and states. -/
import Derived.Test.YtmkknklkdgkbaaaDoorSb
namespace Go.Proofs.YtmkknklkdgkbaaaDoor
open Go.ChangeShapes Go.WideShapes Go.ChangeAt Go.RowKit
set_option linter.unusedVariables false
set_option linter.unusedSimpArgs false
/- a store of a whole array into a block of its own -/
theorem wpList_st1 {ops : Array Oper} {rest : List Oper} {o : Oper} {a : Act} {Q : Exit → Act → World → Prop} {w : World} {k : IntKind} {t : TypeId} {g : Nat} {l l2 : List Nat} (hgd : o.guard = none) (hd : o.dst = none) (ty : TypeId) (x y : Operand)
    (ho : o.op = .store ty x y) (hx : a.eval x = .pointer (some ⟨g, 0, none⟩)) (hy : a.eval y = .agg (cs k l2)) (hr : Hid (Arr k t w g l)) (hi : (Tryd.prog.info? ty).map (·.size) = some l2.length) (hl : l.length = l2.length)
    (h : wpList Tryd.prog ops Q rest a (w.setRow g (cs k l2))) : wpList Tryd.prog ops Q (o :: rest) a w :=
  wpList_st hgd ty x y ho hx hy hr hi hl (by rw [hd]; exact h)
/- a store of one byte into an array -/
theorem wpList_stc {ops : Array Oper} {rest : List Oper} {o : Oper} {a : Act} {Q : Exit → Act → World → Prop} {w : World} {t : TypeId} {g i : Nat} {l : List Nat} {v : Int} (hgd : o.guard = none) (hd : o.dst = none) (x y : Operand)
    (ho : o.op = .store 5 x y) (hx : a.eval x = .pointer (some ⟨g, i, none⟩)) (hy : a.eval y = .int .u8 v) (hr : Hid (Arr .u8 t w g l)) (hi : i < l.length)
    (h : wpList Tryd.prog ops Q rest a (w.setCell ⟨g, i, none⟩ (.int .u8 v))) : wpList Tryd.prog ops Q (o :: rest) a w := by
  refine wpList_plain hgd fun K hK => ?_
  have c := hr.out.cell hi
  have f := hr.out.frozen i
  have h2 := hK _ _ h
  unfold Oper.wp execOp
  simp only [ho, hx, hy, Instr.storeAt, Instr.sureAddr, Sem.run_bind, Sem.run_pure, Result.andThen_ok]
  have hs : (storeVar 5 ⟨g, i, none⟩ (.int .u8 v)).run Tryd.prog w = .ok () (w.setCell ⟨g, i, none⟩ (.int .u8 v)) := by
    simp [go_sem, storeVar, c, f]
  rw [hs]
  show K (a.put o.dst undef) _
  rw [hd]
  exact h2
theorem two (w : World) (o1 o2 : Obj) : ((w.alloc o1).alloc o2).heap[w.heap.size]? = some o1 ∧ ((w.alloc o1).alloc o2).heap[w.heap.size + 1]? = some o2 := by
  have e1 : (w.alloc o1).heap.size = w.heap.size + 1 := by simp
  refine ⟨?_, ?_⟩
  · rw [Below.heap_alloc _ _ _ (by omega), heap_alloc_new]
  · rw [← e1, heap_alloc_new]
theorem below2 (w : World) (o1 o2 : Obj) : Below w.heap.size w ((w.alloc o1).alloc o2) := by
  have h1 := (Below.refl w.heap.size w).alloc (Nat.le_refl _) o1
  exact h1.alloc h1.size o2
def Zb64 : List Nat := List.replicate 64 0
structure Cnt (w wr : World) (l : List Nat) : Prop where
  st : Arr .u8 121 wr w.heap.size l
  out : Arr .u8 121 wr (w.heap.size + 1) Zb64
  bel : Below w.heap.size w wr
theorem countN_length (b : List Nat) (c n : Nat) : (Gs.countN b c n).length = b.length := by
  induction n with
  | zero => rfl
  | succ n ih => simp [Gs.countN, ih]
theorem Cnt.set {w wr : World} {l : List Nat} (h : Cnt w wr l) (i x : Nat) : Cnt w (wr.setCell ⟨w.heap.size, i, none⟩ (.int .u8 (x : Nat))) (l.set i x) := by
  have o : Oth w.heap.size wr (wr.setCell ⟨w.heap.size, i, none⟩ (.int .u8 (x : Nat))) := (Oth.refl _ wr).setCell i _
  exact ⟨h.st.set i x, h.out.oth o (by omega), o.below h.bel (Nat.le_refl _)⟩
set_option maxRecDepth 20000 in
set_option maxHeartbeats 2000000 in
theorem counting_n (b : List Nat) (len : Nat) (hb : b.length = 64) (hl : len < 9223372036854775808) (w : World) :
    Calls Tryd.prog 73 #[.agg (cs .u8 b), .int .i64 (len : Int)] w fun e w' => ∃ l, e = .returned (.agg (cs .u8 l)) ∧ Hid (l = Gs.counting b len ∧ Below w.heap.size w w') := by
  have Lb : Hid (b.length = 64) := hb
  clear hb
  obtain ⟨c, C⟩ : ∃ c, Hid (len * 8 % 18446744073709551616 = c) := ⟨_, rfl⟩
  have ec : IntKind.u64.wrap ((len : Int) * 8) = (c : Int) := by
    have h : IntKind.u64.wrap ((len : Int) * 8) = ((len : Int) * 8) % 18446744073709551616 := by simp [IntKind.wrap, IntKind.bits, IntKind.signed]
    rw [h, ← C.out]; omega
  go_enter Tryd.func73, Tryd.ntmps73
  go_wp2
  go_loopw [6, 5] (fun ti tc wr => ∃ n i x : Nat, i + n = 63 ∧ n ≤ 8 ∧ ti = .int .i64 i ∧ tc = .int .u64 x ∧ Hid (x = c / 256 ^ n ∧ Cnt w wr (Gs.countN b c n))) (fun ti _ _ => (intOf ti).toNat)
  case atStart => exact ⟨0, 63, c, rfl, by omega, rfl, rfl, by simp, (two w _ _).1, (two w _ _).2, below2 w _ _⟩
  case round =>
    obtain ⟨n, i, x, hi, hn, rfl, rfl, HC⟩ := hrel
    by_cases hlt : n < 8
    · have i1 : (0 : Int) ≤ (i : Int) := by omega
      have i2 : (i : Int) < 64 := by omega
      have i3 : (56 : Int) ≤ (i : Int) := by omega
      obtain ⟨z, hz⟩ : ∃ z : Nat, wr.cell? ⟨w.heap.size, i, none⟩ = some (.int .u8 z) := ⟨_, HC.out.2.st.cell (by rw [countN_length, Lb.out]; omega)⟩
      have f0 : wr.frozen? ⟨w.heap.size, i, none⟩ = false := HC.out.2.st.frozen i
      go_wp2
      go_roundw
      case rel =>
        refine ⟨n + 1, i - 1, x / 256, by omega, by omega, by rw [show ((i : Int) - 1) = ((i - 1 : Nat) : Int) from by omega], by simp, ?_, ?_⟩
        · rw [HC.out.1, Nat.div_div_eq_div_mul, Nat.pow_succ]
        · have h := HC.out.2.set i (x % 256)
          have e : Gs.countN b c (n + 1) = (Gs.countN b c n).set i (x % 256) := by
            show (Gs.countN b c n).set (63 - n) (c / 256 ^ n % 256) = _
            rw [HC.out.1, show 63 - n = i from by omega]
          rw [e]
          have e2 : ((x % 256 : Nat) : Int) = (x : Int) % 256 := by simp
          rw [← e2]
          exact h
      case measure => simp [intOf]; omega
    · have i3 : ¬ ((56 : Int) ≤ (i : Int)) := by omega
      have en : n = 8 := by omega
      subst en
      obtain ⟨l, Hl⟩ : ∃ l, Hid (Gs.countN b c 8 = l) := ⟨_, rfl⟩
      have N : Hid (l.length = 64) := by rw [← Hl.out, countN_length]; exact Lb.out
      have HC2 : Hid (Cnt w wr l) := by rw [← Hl.out]; exact HC.out.2
      have R1 : Hid (Rng .u8 wr w.heap.size 0 l) := HC2.out.st.rng
      have R2 : Hid (Arr .u8 121 wr (w.heap.size + 1) Zb64) := HC2.out.out
      have RE : Hid (Arr .u8 121 (wr.setRow (w.heap.size + 1) (cs .u8 l)) (w.heap.size + 1) l) := HC2.out.out.setRow l
      have BE : Hid (Below w.heap.size w (wr.setRow (w.heap.size + 1) (cs .u8 l))) := (Oth.setRow _).below HC2.out.bel (by omega)
      have VE : Hid (l = Gs.counting b len) := by
        show l = Gs.countN b (len * 8 % 18446744073709551616) 8
        rw [C.out, Hl.out]
      clear HC HC2
      go_wp2_with (first | (refine wpList_ld (by rfl) 121 (.tmp 2) (by rfl) (by rfl) R1 und56 (by rw [N.out]; exact sz56) ?_) | (refine wpList_st1 (t := 121) (l := Zb64) (by rfl) (by rfl) 121 (.tmp 4) (.tmp 20) (by rfl) (by rfl) (by rfl) R2 (by rw [N.out]; exact sz56) (by rw [N.out]; rfl) ?_))
      refine bodyPost_ret (v := .agg (cs .u8 l)) (res_arr (by rfl) (by rfl) RE.out und56 (by rw [N.out]; exact sz56)) rfl ?_
      exact ⟨l, rfl, VE.out, BE.out⟩
theorem index_arr (s : List Nat) (hs : s.length = 8) (k : Nat) (hk : k < 8) (w : World) : (Instr.index 118 (.agg (cs .u32 s)) (.int .i64 (k : Int))).run Tryd.prog w = .ok (.int .u32 ((s.getD k 0 : Nat) : Int)) w := by
  have h1 : (0 : Int) ≤ (k : Int) ∧ (k : Int) < 8 := by omega
  have h2 : (cs .u32 s)[k]? = some (.int .u32 ((s.getD k 0 : Nat) : Int)) := by
    have : k < s.length := by omega
    simp [cs, wv, List.getD, this]
  simp [Instr.index, run_underlying Tryd.underlying118, asIntOf, part, go_sem, h1, h2]
  intro h
  omega
end Go.Proofs.YtmkknklkdgkbaaaDoor
