import Derived.Test.YtkdgakcmhnadfaaGreatDoorMYd
import Derived.Test.YtkdgakcmhnadfaaGreatDoorMGd
import Derived.Test.YtkdgakcmhnadfaaGreatDoorMOr
/- Gj -/
/- A head's numbers read: plain functions; results that lie in memory. -/
/- errors turned -/
namespace Go.Proofs.YtkdgakcmhnadfaaGreatDoor
open Go.ChangeShapes Go.WideShapes Go.ChangeAt Go.RowKit
set_option maxRecDepth 20000
set_option linter.unusedVariables false
set_option linter.unusedSimpArgs false
/- k numbers, each with its bound; the place behind them -/
def rdS (l : List Nat) (zs : List Int) : Nat → Option (List Nat × Nat)
  | 0 => some ([], 0)
  | k + 1 => match rdS l zs k with
    | none => none
    | some (ns, p) => if (rdN l p (zs.getD k 0)).2.1 = 0 then some (ns ++ [(rdN l p (zs.getD k 0)).1], (rdN l p (zs.getD k 0)).2.2) else none
theorem rdS_ok {l : List Nat} {zs : List Int} {k p : Nat} {ns : List Nat} (h : rdS l zs k = some (ns, p)) (h1 : (rdN l p (zs.getD k 0)).2.1 = 0) : rdS l zs (k + 1) = some (ns ++ [(rdN l p (zs.getD k 0)).1], (rdN l p (zs.getD k 0)).2.2) := by
  simp only [rdS, h]
  rw [if_pos h1]
theorem rdS_bad {l : List Nat} {zs : List Int} {k p : Nat} {ns : List Nat} (h : rdS l zs k = some (ns, p)) (h1 : (rdN l p (zs.getD k 0)).2.1 ≠ 0) : rdS l zs (k + 1) = none := by
  simp only [rdS, h]
  rw [if_neg h1]
theorem rdS_none {l : List Nat} {zs : List Int} {k : Nat} (h : rdS l zs k = none) : ∀ j, rdS l zs (k + j) = none
  | 0 => h
  | j + 1 => by
    have := rdS_none h j
    rw [← Nat.add_assoc]
    simp only [rdS, this]
theorem rdS_len {l : List Nat} {zs : List Int} : ∀ {k p : Nat} {ns : List Nat}, rdS l zs k = some (ns, p) → ns.length = k
  | 0, p, ns, h => by simp only [rdS, Option.some.injEq, Prod.mk.injEq] at h; rw [← h.1]; rfl
  | k + 1, p, ns, h => by
    simp only [rdS] at h
    cases hk : rdS l zs k with
    | none => rw [hk] at h; cases h
    | some r =>
      obtain ⟨ns', p'⟩ := r
      rw [hk] at h
      dsimp only at h
      split at h
      · simp only [Option.some.injEq, Prod.mk.injEq] at h
        rw [← h.1, List.length_append, rdS_len hk]
        rfl
      · cases h
/- a head's numbers, if the bytes are made of them alone -/
def hdN (l : List Nat) : Option (List Nat) := match rdS l mostL 7 with
  | none => none
  | some (ns, p) => if ns.getD 0 0 = 1 ∧ p = l.length then some ns else none
theorem hdN_ok {l ns : List Nat} {p : Nat} (h : rdS l mostL 7 = some (ns, p)) (h1 : ns.getD 0 0 = 1) (h2 : p = l.length) : hdN l = some ns := by
  simp only [hdN, h]
  rw [if_pos ⟨h1, h2⟩]
theorem hdN_bad {l ns : List Nat} {p : Nat} (h : rdS l mostL 7 = some (ns, p)) (h1 : ¬ (ns.getD 0 0 = 1 ∧ p = l.length)) : hdN l = none := by
  simp only [hdN, h]
  rw [if_neg h1]
theorem hdN_none {l : List Nat} (h : rdS l mostL 7 = none) : hdN l = none := by simp only [hdN, h]
theorem hdN_len {l ns : List Nat} (h : hdN l = some ns) : ns.length = 7 := by
  unfold hdN at h
  cases hk : rdS l mostL 7 with
  | none => rw [hk] at h; cases h
  | some r =>
    obtain ⟨ns', p⟩ := r
    rw [hk] at h
    dsimp only at h
    split at h
    · simp only [Option.some.injEq] at h
      rw [← h]
      exact rdS_len hk
    · cases h
/- a frame's head: the error's number, the numbers, where the blocks begin -/
def hdF (F : List Nat) : Nat × List Nat × Nat :=
  if (rdB F 0 256).2.1 ≠ 0 then (5, [], 0)
  else if (opn (rdB F 0 256).1).2 ≠ 0 then ((opn (rdB F 0 256).1).2, [], 0)
  else match hdN (opn (rdB F 0 256).1).1 with
    | none => (5, [], 0)
    | some ns => (0, ns, (rdB F 0 256).2.2)
theorem sz64 : (Tryz.prog.info? 138).map (·.size) = some 7 := by kernel_rfl
theorem sz25s : (Tryz.prog.info? 45).map (·.size) = some 5 := by kernel_rfl
theorem und64 : ∃ d, Tryz.prog.underlying 138 = some d ∧ d.isRow = true := ⟨_, Tryz.underlying138, rfl⟩
theorem und25s : ∃ d, Tryz.prog.underlying 45 = some d ∧ d.isRow = true := ⟨_, Tryz.underlying45, rfl⟩
def Z7 : List Nat := [0, 0, 0, 0, 0, 0, 0]
def Z5 : List Nat := [0, 0, 0, 0, 0]
/- an array and one thing more handed back -/
theorem res_arr2 {fn : Func} {p q : Tmp} {ty : TypeId} (hf : fn.results = #[.cell p ty, .tmp q]) {tmps : Array Value} {w : World} {g : Nat} {k : IntKind} {t : TypeId} {l : List Nat} (hp : tmps.getD p undef = .pointer (some ⟨g, 0, none⟩)) (hr : Arr k t w g l)
    (hu : ∃ d, Tryz.prog.underlying ty = some d ∧ d.isRow = true) (hi : (Tryz.prog.info? ty).map (·.size) = some l.length) : (results fn tmps).run Tryz.prog w = .ok (.tuple #[.agg (cs k l), tmps.getD q undef]) w := by
  obtain ⟨d, h1, h2⟩ := hu
  have hp' : tmps[p]?.getD undef = .pointer (some ⟨g, 0, none⟩) := by simpa using hp
  have e := run_loadVar_row (P := Tryz.prog) w g t ty (cs k l) (0, 0) d hr h1 (by cases d <;> simp_all [TypeDesc.isRow]) (by rw [hi, cs_size])
  simp [results, hf, hp', asAddr, e]
theorem res_arr3 {fn : Func} {p q r : Tmp} {ty : TypeId} (hf : fn.results = #[.cell p ty, .tmp q, .tmp r]) {tmps : Array Value} {w : World} {g : Nat} {k : IntKind} {t : TypeId} {l : List Nat} (hp : tmps.getD p undef = .pointer (some ⟨g, 0, none⟩)) (hr : Arr k t w g l)
    (hu : ∃ d, Tryz.prog.underlying ty = some d ∧ d.isRow = true) (hi : (Tryz.prog.info? ty).map (·.size) = some l.length) : (results fn tmps).run Tryz.prog w = .ok (.tuple #[.agg (cs k l), tmps.getD q undef, tmps.getD r undef]) w := by
  obtain ⟨d, h1, h2⟩ := hu
  have hp' : tmps[p]?.getD undef = .pointer (some ⟨g, 0, none⟩) := by simpa using hp
  have e := run_loadVar_row (P := Tryz.prog) w g t ty (cs k l) (0, 0) d hr h1 (by cases d <;> simp_all [TypeDesc.isRow]) (by rw [hi, cs_size])
  simp [results, hf, hp', asAddr, e]
theorem res_arr4 {fn : Func} {p q r s : Tmp} {ty : TypeId} (hf : fn.results = #[.cell p ty, .tmp q, .tmp r, .tmp s]) {tmps : Array Value} {w : World} {g : Nat} {k : IntKind} {t : TypeId} {l : List Nat} (hp : tmps.getD p undef = .pointer (some ⟨g, 0, none⟩)) (hr : Arr k t w g l)
    (hu : ∃ d, Tryz.prog.underlying ty = some d ∧ d.isRow = true) (hi : (Tryz.prog.info? ty).map (·.size) = some l.length) : (results fn tmps).run Tryz.prog w = .ok (.tuple #[.agg (cs k l), tmps.getD q undef, tmps.getD r undef, tmps.getD s undef]) w := by
  obtain ⟨d, h1, h2⟩ := hu
  have hp' : tmps[p]?.getD undef = .pointer (some ⟨g, 0, none⟩) := by simpa using hp
  have e := run_loadVar_row (P := Tryz.prog) w g t ty (cs k l) (0, 0) d hr h1 (by cases d <;> simp_all [TypeDesc.isRow]) (by rw [hi, cs_size])
  simp [results, hf, hp', asAddr, e]
/- one number read, by how it ends -/
theorem rnum_z {w : World} {g B M : Nat} {a : Option Addr} {n c : Nat} {l : List Nat} {p : Nat} {z : Int} {E : Nat → Addr} (hR : Hid (Rdr w g B a n c l p)) (hz2 : z ≤ 9223372036854775807) (hE : Hid (Sent w M E)) (hM : 8 ≤ M) (h0 : Hid ((rdN l p z).2.1 = 0)) :
    Calls Tryz.prog 145 #[.pointer (some ⟨g, 0, none⟩), .int .i64 z] w fun e w' => ∃ x : Nat, e = .returned (.tuple #[.int .i64 (x : Int), .nilIface]) ∧ Hid (x = (rdN l p z).1 ∧ Rdr w' g B a n c l (rdN l p z).2.2 ∧ Wfr w w' g none) := by
  refine (rnum_any hR hz2 hE hM).mono ?_
  rintro e w' ⟨k, v, h1, H⟩
  have h2 := H.out.2.1
  rw [h0.out] at h2
  rw [h1, h2]
  exact ⟨k, rfl, H.out.1, H.out.2.2⟩
theorem rdN_five {l : List Nat} {p : Nat} {z : Int} (h : (rdN l p z).2.1 ≠ 0) : rdN l p z = (0, 5, p) := by
  unfold rdN at h ⊢
  split
  · rename_i h1; rw [if_pos h1] at h; exact absurd rfl h
  · rfl
theorem rnum_e {w : World} {g B M : Nat} {a : Option Addr} {n c : Nat} {l : List Nat} {p : Nat} {z : Int} {E : Nat → Addr} (hR : Hid (Rdr w g B a n c l p)) (hz2 : z ≤ 9223372036854775807) (hE : Hid (Sent w M E)) (hM : 8 ≤ M) (h0 : Hid ((rdN l p z).2.1 ≠ 0)) :
    Calls Tryz.prog 145 #[.pointer (some ⟨g, 0, none⟩), .int .i64 z] w fun e w' => e = .returned (.tuple #[.int .i64 0, .iface 273 (.pointer (some (E 6)))]) ∧ Hid (Rdr w' g B a n c l p ∧ Wfr w w' g none) := by
  refine (rnum_any hR hz2 hE hM).mono ?_
  rintro e w' ⟨k, v, h1, H⟩
  have h3 := rdN_five h0.out
  rw [h3] at H
  rw [h1, H.out.2.1, H.out.1]
  exact ⟨rfl, H.out.2.2⟩
end Go.Proofs.YtkdgakcmhnadfaaGreatDoor

/- Gk -/
/- readNumbers of package frame, for all bytes. -/
/- errors turned -/
namespace Go.Proofs.YtkdgakcmhnadfaaGreatDoor
open Go.ChangeShapes Go.WideShapes Go.ChangeAt Go.RowKit
set_option maxRecDepth 20000
set_option linter.unusedVariables false
set_option linter.unusedSimpArgs false
/- while the numbers are read: the result's variable, the reader, the numbers -/
structure Rnm (w wr : World) (E : Nat → Addr) (M g gn : Nat) (a : Option Addr) (n c : Nat) (l : List Nat) (p : Nat) (ns : List Nat) : Prop where
  rd : Rdr wr g (w.heap.size + 1) a n c l p
  out : Arr .i64 138 wr w.heap.size Z7
  arr : Arr .i64 138 wr gn ns
  ne : w.heap.size < g ∧ g < gn ∧ blkOf a ≠ some gn
  mst : Mst wr
  sent : Sent wr M E
  bel : Below w.heap.size w wr
theorem Sent.wfr {w w' : World} {M g : Nat} {E : Nat → Addr} (h : Sent w M E) (f : Wfr w w' g none) (hg : ∀ i, In M i → i ≠ g ∧ (E i).block ≠ g) : Sent w' M E :=
  ⟨fun i hi => (World.cell?_of_block (f.block i (cell_lt (h.c i hi)) (hg i hi).1 (by simp [blkOf]))).trans (h.c i hi), fun i hi => by
    obtain ⟨cs, t, h1⟩ := h.row i hi
    exact ⟨cs, t, (f.block _ (Array.getElem?_eq_some_iff.1 h1).1 (hg i hi).2 (by simp [blkOf])).trans h1⟩, h.ne⟩
theorem sent_lt {w : World} {M : Nat} {E : Nat → Addr} (h : Sent w M E) (i : Nat) (hi : In M i) : i < w.heap.size ∧ (E i).block < w.heap.size := by
  obtain ⟨cs, t, h1⟩ := h.row i hi
  exact ⟨cell_lt (h.c i hi), (Array.getElem?_eq_some_iff.1 h1).1⟩
theorem Mst.wfr {w w' : World} {g : Nat} (h : Mst w) (f : Wfr w w' g none) (hg : 18 ≠ g) : Mst w' := fun i hi => (World.cell?_of_block (f.block 18 h.lt hg (by simp [blkOf]))).trans (h i hi)
theorem Rnm.step {w wr w2 : World} {E : Nat → Addr} {M g gn : Nat} {a : Option Addr} {n c : Nat} {l : List Nat} {p q : Nat} {ns : List Nat} (h : Rnm w wr E M g gn a n c l p ns) (hs : Sent w M E) (hm : 18 < w.heap.size) (r : Rdr w2 g (w.heap.size + 1) a n c l q) (f : Wfr wr w2 g none) : Rnm w w2 E M g gn a n c l q ns := by
  have h1 := h.ne
  have h2 := h.bel.size
  have h3 := h.rd.lt
  refine ⟨r, ?_, ?_, h.ne, h.mst.wfr f (by omega), h.sent.wfr f (fun i hi => ?_), ?_⟩
  · exact (f.block _ (by omega) (by omega) (by simp [blkOf])).trans h.out
  · exact (f.block _ h.arr.lt (by omega) (by simp [blkOf])).trans h.arr
  · have := sent_lt hs i hi; omega
  · exact f.below h.bel (by omega) (fun q hq => by simp [blkOf] at hq) h2
theorem Rnm.put {w wr : World} {E : Nat → Addr} {M g gn : Nat} {a : Option Addr} {n c : Nat} {l : List Nat} {p : Nat} {ns : List Nat} (h : Rnm w wr E M g gn a n c l p ns) (hs : Sent w M E) (hm : 18 < w.heap.size) (i x : Nat) : Rnm w (wr.setCell ⟨gn, i, none⟩ (.int .i64 (x : Nat))) E M g gn a n c l p (ns.set i x) := by
  have h1 := h.ne
  have o : ∀ b, b ≠ gn → (wr.setCell ⟨gn, i, none⟩ (.int .i64 (x : Nat))).heap[b]? = wr.heap[b]? := fun b hb => Below.heap_setCell wr ⟨gn, i, none⟩ _ b hb
  refine ⟨⟨(o g (by omega)).trans h.rd.blk, h.rd.own.block (fun q hq => o q (fun e => h1.2.2 (by rw [hq, e]))), h.rd.ne, h.rd.le, h.rd.sz⟩, (o _ (by omega)).trans h.out, h.arr.set i x, h.ne, ?_, ?_, ?_⟩
  · exact fun j hj => (World.cell?_of_block (o 18 (by omega))).trans (h.mst j hj)
  · refine ⟨fun j hj => (World.cell?_of_block (o j (by have := sent_lt hs j hj; omega))).trans (h.sent.c j hj), fun j hj => ?_, h.sent.ne⟩
    obtain ⟨cs, t, h5⟩ := h.sent.row j hj
    exact ⟨cs, t, (o _ (by have := sent_lt hs j hj; omega)).trans h5⟩
  · exact h.bel.setCell (by show w.heap.size ≤ gn; omega) _
def RnEnd (w : World) (l : List Nat) (E : Nat → Addr) (e : Ending) (w' : World) : Prop := Below w.heap.size w w' ∧
  ((∃ ns, hdN l = some ns ∧ e = .returned (.tuple #[.agg (cs .i64 ns), .nilIface])) ∨ (hdN l = none ∧ e = .returned (.tuple #[.agg (cs .i64 Z7), .iface 273 (.pointer (some (E 6)))])))
set_option maxHeartbeats 4000000 in
theorem readNumbers_n {w : World} {a : Option Addr} {n c M : Nat} {l : List Nat} {E : Nat → Addr} (hS : Hid (Sln w a n l)) (hc : Hid (a = none → c = 0)) (hM : Hid (Mst w)) (hE : Hid (Sent w M E)) (h4 : 8 ≤ M) :
    Calls Tryz.prog 116 #[.slice a n c] w fun e w' => RnEnd w l E e w' := by
  obtain ⟨W0, HW0⟩ : ∃ W0, Hid (w.alloc (.cells #[.int .i64 0, .int .i64 0, .int .i64 0, .int .i64 0, .int .i64 0, .int .i64 0, .int .i64 0] 138) = W0) := ⟨_, rfl⟩
  have b0 : Hid (Below w.heap.size w W0 ∧ W0.heap.size = w.heap.size + 1) := by rw [← HW0.out]; exact ⟨(Below.refl _ w).alloc (Nat.le_refl _) _, by simp⟩
  have S0 : Hid (Sln W0 a n l) := hS.out.below b0.out.1
  have A0 : Hid (Arr .i64 138 W0 w.heap.size Z7) := by rw [← HW0.out]; exact Arr.new w .i64 138 Z7
  have w18 : 18 < w.heap.size := hM.out.lt
  have ln : Hid (n = l.length) := hS.out.len
  go_enter Tryz.func116, Tryz.ntmps116
  go_wp2_with (go_at_call 113; rw [HW0.out]; refine (newReader_n S0 hc).mono ?_; rintro e w1 ⟨g, a', c', rfl, H1⟩)
  obtain ⟨w2, HW2⟩ : ∃ w2, Hid (w1.alloc (.cells #[.int .i64 0, .int .i64 0, .int .i64 0, .int .i64 0, .int .i64 0, .int .i64 0, .int .i64 0] 138) = w2) := ⟨_, rfl⟩
  obtain ⟨gn, HGN⟩ : ∃ gn, Hid (w1.heap.size = gn) := ⟨_, rfl⟩
  have R2 : Hid (Rnm w w2 E M g gn a' n c' l 0 Z7) := by
    have b2 : Below w1.heap.size w1 w2 := by rw [← HW2.out]; exact (Below.refl _ _).alloc (Nat.le_refl _) _
    have h1 := b0.out.2
    have h2 := H1.out.2.1
    have h3 := H1.out.1.lt
    have bw : Below w.heap.size w w2 := (b0.out.1.trans (H1.out.2.2.mono (by omega))).trans (b2.mono (by have := H1.out.2.2.size; omega))
    refine ⟨?_, ?_, ?_, ⟨by omega, by rw [← HGN.out]; omega, ?_⟩, hM.out.below bw w18, hE.out.below bw, bw⟩
    · have h5 := H1.out.1.below b2
      rw [h1] at h5
      exact h5
    · exact (A0.out.below H1.out.2.2 (by omega)).below b2 (by have := H1.out.2.2.size; omega)
    · rw [← HW2.out, ← HGN.out]; exact Arr.new w1 .i64 138 Z7
    · intro h
      have := (H1.out.1.own.ge gn h).2
      have := HGN.out
      omega
  rw [HW2.out, HGN.out]
  clear H1 HW2 HGN A0 S0
  go_wp2
  go_loopw [10] (fun t wr => ∃ (k p : Nat) (ns : List Nat), k ≤ 7 ∧ t = .int .i64 k ∧ Hid (rdS l mostL k = some (ns, p) ∧ Rnm w wr E M g gn a' n c' l p (ns ++ Z7.drop k))) (fun t _ => 7 - (intOf t).toNat)
  case atStart => exact ⟨0, 0, [], by omega, rfl, rfl, R2.out⟩
  case round =>
    clear R2
    obtain ⟨k, p, ns, hk, rfl, HK⟩ := hrel
    by_cases hlt : k < 7
    · have i1 : (k : Int) < 7 := by omega
      have cm := HK.out.2.mst k hlt
      obtain ⟨m, Hm⟩ : ∃ m, Hid (mostL.getD k 0 = m) := ⟨_, rfl⟩
      rw [Hm.out] at cm
      have mz : m ≤ 9223372036854775807 := by
        rw [← Hm.out]
        have : ∀ i, i < 7 → mostL.getD i 0 ≤ 9223372036854775807 := by decide
        exact this k hlt
      have RD : Hid (Rdr wr g (w.heap.size + 1) a' n c' l p) := HK.out.2.rd
      have SE : Hid (Sent wr M E) := HK.out.2.sent
      by_cases hz : (rdN l p m).2.1 = 0
      · have HZ : Hid ((rdN l p m).2.1 = 0) := hz
        clear hz
        have HLT : Hid (k < 7) := hlt
        go_wp2_with (go_at_call 145; refine (rnum_z RD mz SE h4 HZ).mono ?_; rintro e w3 ⟨x, rfl, H3⟩
                     have R3 : Hid (Rnm w w3 E M g gn a' n c' l (rdN l p m).2.2 (ns ++ Z7.drop k)) := HK.out.2.step hE.out hM.out.lt H3.out.2.1 H3.out.2.2
                     have ll : k < (ns ++ Z7.drop k).length := by rw [List.length_append, rdS_len HK.out.1]; simp [Z7]; have := HLT.out; omega
                     have ca := R3.out.arr.cell ll
                     have fa := R3.out.arr.frozen k
                     have R4 : Hid (Rnm w (w3.setCell ⟨gn, k, none⟩ (.int .i64 (x : Int))) E M g gn a' n c' l (rdN l p m).2.2 ((ns ++ Z7.drop k).set k x)) := R3.out.put hE.out hM.out.lt k x
                     clear ll)
        go_roundw
        case rel =>
          refine ⟨k + 1, (rdN l p m).2.2, ns ++ [x], by omega, by go_num, ?_, ?_⟩
          · have h1 := rdS_ok HK.out.1 (by rw [Hm.out]; exact HZ.out)
            rw [Hm.out, ← H3.out.1] at h1
            exact h1
          · have h1 := R4.out
            have e1 : (ns ++ Z7.drop k).set k x = ns ++ [x] ++ Z7.drop (k + 1) := by
              have h2 := rdS_len HK.out.1
              have h3 : ∀ j, j < 7 → Z7.drop j = 0 :: Z7.drop (j + 1) := by decide
              rw [h3 k hlt, List.set_append_right _ _ (by omega), h2]
              simp
            rw [e1] at h1
            exact h1
        case measure => simp [intOf]; omega
      · have HZ : Hid ((rdN l p m).2.1 ≠ 0) := hz
        clear hz
        have HLT : Hid (k < 7) := hlt
        have HBAD : Hid (hdN l = none) := by
          refine hdN_none ?_
          have h1 := rdS_none (rdS_bad HK.out.1 (by rw [Hm.out]; exact HZ.out)) (7 - (k + 1))
          rw [show k + 1 + (7 - (k + 1)) = 7 by omega] at h1
          exact h1
        go_wp2_with (first
          | (go_at_call 145; refine (rnum_e RD mz SE h4 HZ).mono ?_; rintro e w3 ⟨rfl, H3⟩
             have R3 : Hid (Rnm w w3 E M g gn a' n c' l p (ns ++ Z7.drop k)) := HK.out.2.step hE.out hM.out.lt H3.out.1 H3.out.2
             have ll : k < (ns ++ Z7.drop k).length := by rw [List.length_append, rdS_len HK.out.1]; simp [Z7]; have := HLT.out; omega
             have ca := R3.out.arr.cell ll
             have fa := R3.out.arr.frozen k
             have R4 : Hid (Rnm w (w3.setCell ⟨gn, k, none⟩ (.int .i64 0)) E M g gn a' n c' l p ((ns ++ Z7.drop k).set k 0)) := R3.out.put hE.out hM.out.lt k 0
             have A5 : Hid (Arr .i64 138 (w3.setCell ⟨gn, k, none⟩ (.int .i64 0)) w.heap.size Z7) := R4.out.out
             clear ll)
          | (refine wpList_st0 (k := .i64) (t := 138) (l := Z7) (l2 := Z7) (by rfl) (by rfl) 138 (.tmp 2) (.tmp 25) (by rfl) (by rfl) (by rfl) A5 sz64 (by rfl) ?_))
        have FIN : RnEnd w l E (.returned (.tuple #[.agg (cs .i64 Z7), .iface 273 (.pointer (some (E 6)))])) ((w3.setCell ⟨gn, k, none⟩ (.int .i64 0)).setRow w.heap.size (cs .i64 Z7)) := ⟨(Oth.setRow _).below R4.out.bel (Nat.le_refl _), .inr ⟨HBAD.out, rfl⟩⟩
        refine bodyPost_ret (res_arr2 (by rfl) (by rfl) (A5.out.setRow Z7) und64 sz64) rfl ?_
        exact FIN
    · obtain rfl : k = 7 := by omega
      have e7 : ns ++ Z7.drop 7 = ns := by simp [Z7]
      rw [e7] at HK
      have L7 : Hid (ns.length = 7) := rdS_len HK.out.1
      have c0 := HK.out.2.arr.cell (i := 0) (by have := L7.out; omega)
      obtain ⟨x, Hx⟩ : ∃ x, Hid (ns.getD 0 0 = x) := ⟨_, rfl⟩
      rw [Hx.out] at c0
      clear e7
      by_cases hx : x = 1
      · have RD : Hid (Rdr wr g (w.heap.size + 1) a' n c' l p) := HK.out.2.rd
        have i1 : ((x : Int) == 1) = true := by simp; omega
        have i2 : ((x : Int) != 1) = false := by simp; omega
        by_cases hp : n - p = 0
        · have i3 : ¬ ((0 : Int) < ((n - p : Nat) : Int)) := by omega
          have GOOD : Hid (hdN l = some ns) := hdN_ok HK.out.1 (by rw [Hx.out]; exact hx) (by have := HK.out.2.rd.le; have := ln.out; omega)
          clear hx hp
          go_wp2_with (first
            | (go_at_call 117; refine (lft_n RD).mono ?_; rintro e wX ⟨rfl, HX⟩
               obtain ⟨j, hj⟩ := HX.out
               have RX : Hid (Rnm w wX E M g gn a' n c' l p ns) := by rw [hj]; exact HK.out.2.step hE.out hM.out.lt (HK.out.2.rd.drewN j) (wfr_drewN wr g j)
               have RG : Hid (Rng .i64 wX gn 0 ns) := RX.out.arr.rng
               have AO : Hid (Arr .i64 138 wX w.heap.size Z7) := RX.out.out
               clear hj HX)
            | (refine wpList_ld (k := .i64) (by rfl) 138 (.tmp 5) (by rfl) (by rfl) RG und64 (by rw [L7.out]; exact sz64) ?_)
            | (refine wpList_st0 (k := .i64) (t := 138) (l := Z7) (l2 := ns) (by rfl) (by rfl) 138 (.tmp 2) (.tmp 38) (by rfl) (by rfl) (by rfl) AO (by rw [L7.out]; exact sz64) (by rw [L7.out]; rfl) ?_))
          have FIN : RnEnd w l E (.returned (.tuple #[.agg (cs .i64 ns), .nilIface])) (wX.setRow w.heap.size (cs .i64 ns)) := ⟨(Oth.setRow _).below RX.out.bel (Nat.le_refl _), .inl ⟨ns, GOOD.out, rfl⟩⟩
          refine bodyPost_ret (res_arr2 (by rfl) (by rfl) (AO.out.setRow ns) und64 (by rw [L7.out]; exact sz64)) rfl ?_
          exact FIN
        · have i3 : (0 : Int) < ((n - p : Nat) : Int) := by omega
          have HBAD : Hid (hdN l = none) := hdN_bad HK.out.1 (fun h => by have := ln.out; omega)
          clear hx hp
          go_wp2_with (go_at_call 117; refine (lft_n RD).mono ?_; rintro e WX ⟨rfl, HX⟩
                       obtain ⟨j, hj⟩ := HX.out
                       have RX : Hid (Rnm w WX E M g gn a' n c' l p ns) := by rw [hj]; exact HK.out.2.step hE.out hM.out.lt (HK.out.2.rd.drewN j) (wfr_drewN wr g j)
                       clear hj HX)
          have AO : Hid (Arr .i64 138 WX.drew w.heap.size Z7) := RX.out.out
          have ce : WX.drew.cell? ⟨6, 0, none⟩ = some (.iface 273 (.pointer (some (E 6)))) := RX.out.sent.c 6 (by omega)
          have cs3 : (WX.drew.setRow w.heap.size (cs .i64 Z7)).cell? ⟨6, 0, none⟩ = some (.iface 273 (.pointer (some (E 6)))) := (World.cell?_of_block (setRow_other WX.drew w.heap.size 6 _ (by omega))).trans ce
          have FIN : RnEnd w l E (.returned (.tuple #[.agg (cs .i64 Z7), .iface 273 (.pointer (some (E 6)))])) (WX.drew.setRow w.heap.size (cs .i64 Z7)) := ⟨(Oth.setRow _).below RX.out.bel.drew (Nat.le_refl _), .inr ⟨HBAD.out, rfl⟩⟩
          refine wp_region_till (S := fun L W => W.cell? ⟨6, 0, none⟩ = some (.iface 273 (.pointer (some (E 6))))) (by kernel_rfl) ce (fun hS => ?_)
          refine till_take (i := 0) (v := .agg #[.int .i64 0, .int .i64 0, .int .i64 0, .int .i64 0, .int .i64 0, .int .i64 0, .int .i64 0]) rfl (by kernel_rfl) (by kernel_rfl) (by kernel_rfl) (fun _ _ _ h => h) (fun L w => Iff.rfl) (Or.inl ⟨by rfl, fun w => by go_simp⟩) hS (fun hSb => ?_)
          simp only [List.getElem_toArray, List.getElem_cons_zero, List.getElem_cons_succ, Act.put, List.setIfInBounds_toArray, List.set_cons_zero, List.set_cons_succ]
          clear hS
          refine till_read (i := 1) (c := 3) (v := .iface 273 (.pointer (some (E 6)))) (T := fun W => W.cell? ⟨6, 0, none⟩ = some (.iface 273 (.pointer (some (E 6))))) rfl rfl (by kernel_rfl) (by kernel_rfl) (by kernel_rfl) (by kernel_rfl) (by kernel_rfl) (fun _ _ _ h => h) (fun L w => Iff.rfl) (fun L w h1 h2 => h2) (Or.inl ⟨by rfl, fun w hSw => by go_simp⟩) hSb (fun hS => ?_)
          simp only [List.getElem_toArray, List.getElem_cons_zero, List.getElem_cons_succ, Act.put, List.setIfInBounds_toArray, List.set_cons_zero, List.set_cons_succ]
          clear hSb
          refine till_one (i := 2) (by kernel_rfl) rfl (fun K hK => ?_)
          simp only [List.getElem_toArray, List.getElem_cons_zero, List.getElem_cons_succ]
          rw [if_pos (by rfl)]
          refine wp_st (k := .i64) (t := 138) (l := Z7) (l2 := Z7) (by rfl) 138 (.tmp 2) (.tmp 36) (by rfl) (by rfl) (by rfl) AO.out sz64 (by rfl) ?_
          refine hK.out _ _ (cs3) (fun hSb => ?_)
          clear hK K
          try simp only [List.getElem_toArray, List.getElem_cons_zero, List.getElem_cons_succ, Act.put, List.setIfInBounds_toArray, List.set_cons_zero, List.set_cons_succ]
          clear hS
          refine till_one (i := 3) (by kernel_rfl) rfl (fun K hK => ?_)
          simp only [List.getElem_toArray, List.getElem_cons_zero, List.getElem_cons_succ]
          rw [if_pos (by rfl)]
          go_simp
          refine hK.out _ _ (hSb) (fun hS => ?_)
          clear hK K
          try simp only [List.getElem_toArray, List.getElem_cons_zero, List.getElem_cons_succ, Act.put, List.setIfInBounds_toArray, List.set_cons_zero, List.set_cons_succ]
          clear hSb
          refine till_done (by kernel_rfl) ?_ _
          clear hS
          go_wp2
          refine bodyPost_ret (res_arr2 (by rfl) (by rfl) (AO.out.setRow Z7) und64 sz64) rfl ?_
          exact FIN
      · have i1 : ((x : Int) == 1) = false := by simp; omega
        have i2 : ((x : Int) != 1) = true := by simp; omega
        have HBAD : Hid (hdN l = none) := hdN_bad HK.out.1 (fun h => hx (by rw [← Hx.out]; exact h.1))
        clear hx
        go_wp2
        obtain ⟨WX, HWX⟩ : ∃ WX, Hid (wr = WX) := ⟨_, rfl⟩
        have RX : Hid (Rnm w WX E M g gn a' n c' l p ns) := by rw [← HWX.out]; exact HK.out.2
        rw [HWX.out]
        have AO : Hid (Arr .i64 138 WX.drew w.heap.size Z7) := RX.out.out
        have ce : WX.drew.cell? ⟨6, 0, none⟩ = some (.iface 273 (.pointer (some (E 6)))) := RX.out.sent.c 6 (by omega)
        have cs3 : (WX.drew.setRow w.heap.size (cs .i64 Z7)).cell? ⟨6, 0, none⟩ = some (.iface 273 (.pointer (some (E 6)))) := (World.cell?_of_block (setRow_other WX.drew w.heap.size 6 _ (by omega))).trans ce
        have FIN : RnEnd w l E (.returned (.tuple #[.agg (cs .i64 Z7), .iface 273 (.pointer (some (E 6)))])) (WX.drew.setRow w.heap.size (cs .i64 Z7)) := ⟨(Oth.setRow _).below RX.out.bel.drew (Nat.le_refl _), .inr ⟨HBAD.out, rfl⟩⟩
        refine wp_region_till (S := fun L W => W.cell? ⟨6, 0, none⟩ = some (.iface 273 (.pointer (some (E 6))))) (by kernel_rfl) ce (fun hS => ?_)
        refine till_take (i := 0) (v := .agg #[.int .i64 0, .int .i64 0, .int .i64 0, .int .i64 0, .int .i64 0, .int .i64 0, .int .i64 0]) rfl (by kernel_rfl) (by kernel_rfl) (by kernel_rfl) (fun _ _ _ h => h) (fun L w => Iff.rfl) (Or.inl ⟨by rfl, fun w => by go_simp⟩) hS (fun hSb => ?_)
        simp only [List.getElem_toArray, List.getElem_cons_zero, List.getElem_cons_succ, Act.put, List.setIfInBounds_toArray, List.set_cons_zero, List.set_cons_succ]
        clear hS
        refine till_read (i := 1) (c := 3) (v := .iface 273 (.pointer (some (E 6)))) (T := fun W => W.cell? ⟨6, 0, none⟩ = some (.iface 273 (.pointer (some (E 6))))) rfl rfl (by kernel_rfl) (by kernel_rfl) (by kernel_rfl) (by kernel_rfl) (by kernel_rfl) (fun _ _ _ h => h) (fun L w => Iff.rfl) (fun L w h1 h2 => h2) (Or.inl ⟨by rfl, fun w hSw => by go_simp⟩) hSb (fun hS => ?_)
        simp only [List.getElem_toArray, List.getElem_cons_zero, List.getElem_cons_succ, Act.put, List.setIfInBounds_toArray, List.set_cons_zero, List.set_cons_succ]
        clear hSb
        refine till_one (i := 2) (by kernel_rfl) rfl (fun K hK => ?_)
        simp only [List.getElem_toArray, List.getElem_cons_zero, List.getElem_cons_succ]
        rw [if_pos (by rfl)]
        refine wp_st (k := .i64) (t := 138) (l := Z7) (l2 := Z7) (by rfl) 138 (.tmp 2) (.tmp 36) (by rfl) (by rfl) (by rfl) AO.out sz64 (by rfl) ?_
        refine hK.out _ _ (cs3) (fun hSb => ?_)
        clear hK K
        try simp only [List.getElem_toArray, List.getElem_cons_zero, List.getElem_cons_succ, Act.put, List.setIfInBounds_toArray, List.set_cons_zero, List.set_cons_succ]
        clear hS
        refine till_one (i := 3) (by kernel_rfl) rfl (fun K hK => ?_)
        simp only [List.getElem_toArray, List.getElem_cons_zero, List.getElem_cons_succ]
        rw [if_pos (by rfl)]
        go_simp
        refine hK.out _ _ (hSb) (fun hS => ?_)
        clear hK K
        try simp only [List.getElem_toArray, List.getElem_cons_zero, List.getElem_cons_succ, Act.put, List.setIfInBounds_toArray, List.set_cons_zero, List.set_cons_succ]
        clear hSb
        refine till_done (by kernel_rfl) ?_ _
        clear hS
        go_wp2
        refine bodyPost_ret (res_arr2 (by rfl) (by rfl) (AO.out.setRow Z7) und64 sz64) rfl ?_
        exact FIN
end Go.Proofs.YtkdgakcmhnadfaaGreatDoor

/- Gl -/
/- stamp and size of package frame; a list of bytes read, and opened, by how it ends. -/
/- errors turned -/
namespace Go.Proofs.YtkdgakcmhnadfaaGreatDoor
open Go.ChangeShapes Go.WideShapes Go.ChangeAt Go.RowKit
set_option maxRecDepth 20000
set_option linter.unusedVariables false
set_option linter.unusedSimpArgs false
theorem size_n (x0 x1 x2 x3 x4 x5 x6 : Nat) (w : World) : Calls Tryz.prog 89 #[.agg (cs .i64 [x0, x1, x2, x3, x4, x5, x6])] w fun e w' => e = .returned (.int .i64 (x6 : Int)) ∧ Hid (Below w.heap.size w w') := by
  simp only [cs, wv, List.map]
  go_enter Tryz.func89, Tryz.ntmps89
  go_wp2
  go_ret
  exact ⟨rfl, (Below.refl _ _).alloc (Nat.le_refl _) _⟩
theorem stamp_n (x0 x1 x2 x3 x4 x5 x6 : Nat) (w : World) : Calls Tryz.prog 91 #[.agg (cs .i64 [x0, x1, x2, x3, x4, x5, x6])] w fun e w' => e = .returned (.agg (cs .i64 [x1, x2, x3, x4, x5])) ∧ Hid (Below w.heap.size w w') := by
  simp only [cs, wv, List.map]
  go_enter Tryz.func91, Tryz.ntmps91
  go_wp2
  refine bodyPost_ret (v := .agg #[.int .i64 (x1 : Int), .int .i64 (x2 : Int), .int .i64 (x3 : Int), .int .i64 (x4 : Int), .int .i64 (x5 : Int)]) (by simp [results, Tryz.results91, go_sem]) rfl ⟨rfl, ?_⟩
  exact ((Below.refl _ w).alloc (Nat.le_refl _) _).alloc (by simp) _
theorem rbytes_z {w : World} {g B M : Nat} {a : Option Addr} {n c : Nat} {l : List Nat} {p : Nat} {z : Int} {E : Nat → Addr} (hR : Hid (Rdr w g B a n c l p)) (hz2 : z ≤ 9223372036854775807) (hE : Hid (Sent w M E)) (hM : 8 ≤ M) (h0 : Hid ((rdB l p z).2.1 = 0)) :
    Calls Tryz.prog 114 #[.pointer (some ⟨g, 0, none⟩), .int .i64 z] w fun e w' => ∃ a' m c', e = .returned (.tuple #[.slice a' m c', .nilIface]) ∧ Hid (Own w' w.heap.size a' m c' (rdB l p z).1 ∧ Rdr w' g B a n c l (rdB l p z).2.2 ∧ Wfr w w' g none) := by
  refine (rbytes_any hR hz2 hE hM).mono ?_
  rintro e w' ⟨a', m, c', v, h1, H⟩
  have h2 := H.out.2.1
  rw [h0.out] at h2
  rw [h1, h2]
  exact ⟨a', m, c', rfl, H.out.1, H.out.2.2⟩
theorem rdB_five {l : List Nat} {p : Nat} {z : Int} (h : (rdB l p z).2.1 ≠ 0) : rdB l p z = ([], 5, p) := by
  unfold rdB at h ⊢
  split
  · rename_i h1; rw [if_pos h1] at h; exact absurd rfl h
  · rfl
theorem rbytes_e {w : World} {g B M : Nat} {a : Option Addr} {n c : Nat} {l : List Nat} {p : Nat} {z : Int} {E : Nat → Addr} (hR : Hid (Rdr w g B a n c l p)) (hz2 : z ≤ 9223372036854775807) (hE : Hid (Sent w M E)) (hM : 8 ≤ M) (h0 : Hid ((rdB l p z).2.1 ≠ 0)) :
    Calls Tryz.prog 114 #[.pointer (some ⟨g, 0, none⟩), .int .i64 z] w fun e w' => ∃ a' m c', e = .returned (.tuple #[.slice a' m c', .iface 273 (.pointer (some (E 6)))]) ∧ Hid (Wfr w w' g none) := by
  refine (rbytes_any hR hz2 hE hM).mono ?_
  rintro e w' ⟨a', m, c', v, h1, H⟩
  have h2 := H.out.2.1
  rw [rdB_five h0.out] at h2
  rw [h1, h2]
  exact ⟨a', m, c', rfl, H.out.2.2.2⟩
theorem open_z {w : World} {a : Option Addr} {n c M : Nat} {l : List Nat} {E : Nat → Addr} (h : Hid (Sln w a n l)) (hc : Hid (a = none → c = 0)) (hnc : n ≤ c) (hE : Hid (Sent w M E)) (hM : 8 ≤ M) (h0 : Hid ((opn l).2 = 0)) :
    Calls Tryz.prog 115 #[.slice a n c] w fun e w' => ∃ a' N c', e = .returned (.tuple #[.slice a' N c', .nilIface]) ∧ Hid (Own w' w.heap.size a' N c' (opn l).1 ∧ Below w.heap.size w w') := by
  refine (open_any h hc hnc hE hM).mono ?_
  rintro e w' ⟨a', m, c', v, h1, H⟩
  have h2 := H.out.1
  rw [h0.out] at h2
  rw [h1, h2]
  exact ⟨a', m, c', rfl, H.out.2⟩
/- the error that a number names, where it is none of nought -/
def era (k : Nat) : Nat := if k = 5 then 6 else 7
theorem erv_pos {E : Nat → Addr} {k : Nat} (h : k ≠ 0) : erv E k = .iface 273 (.pointer (some (E (era k)))) := by
  unfold erv era
  rw [if_neg h]
  split <;> rfl
theorem open_e {w : World} {a : Option Addr} {n c M : Nat} {l : List Nat} {E : Nat → Addr} (h : Hid (Sln w a n l)) (hc : Hid (a = none → c = 0)) (hnc : n ≤ c) (hE : Hid (Sent w M E)) (hM : 8 ≤ M) (h0 : Hid ((opn l).2 ≠ 0)) :
    Calls Tryz.prog 115 #[.slice a n c] w fun e w' => ∃ a' N c', e = .returned (.tuple #[.slice a' N c', .iface 273 (.pointer (some (E (era (opn l).2))))]) ∧ Hid (Below w.heap.size w w') := by
  refine (open_any h hc hnc hE hM).mono ?_
  rintro e w' ⟨a', m, c', v, h1, H⟩
  have h2 := H.out.1
  rw [erv_pos h0.out] at h2
  rw [h1, h2]
  exact ⟨a', m, c', rfl, H.out.2.2⟩
theorem rn_ok {w : World} {a : Option Addr} {n c M : Nat} {l ns : List Nat} {E : Nat → Addr} (hS : Hid (Sln w a n l)) (hc : Hid (a = none → c = 0)) (hM : Hid (Mst w)) (hE : Hid (Sent w M E)) (h4 : 8 ≤ M) (h0 : Hid (hdN l = some ns)) :
    Calls Tryz.prog 116 #[.slice a n c] w fun e w' => e = .returned (.tuple #[.agg (cs .i64 ns), .nilIface]) ∧ Hid (Below w.heap.size w w') := by
  refine (readNumbers_n hS hc hM hE h4).mono ?_
  rintro e w' ⟨hb, ⟨ns', h1, h2⟩ | ⟨h1, h2⟩⟩
  · rw [h0.out] at h1; cases h1; exact ⟨h2, hb⟩
  · rw [h0.out] at h1; cases h1
theorem rn_bad {w : World} {a : Option Addr} {n c M : Nat} {l : List Nat} {E : Nat → Addr} (hS : Hid (Sln w a n l)) (hc : Hid (a = none → c = 0)) (hM : Hid (Mst w)) (hE : Hid (Sent w M E)) (h4 : 8 ≤ M) (h0 : Hid (hdN l = none)) :
    Calls Tryz.prog 116 #[.slice a n c] w fun e w' => e = .returned (.tuple #[.agg (cs .i64 Z7), .iface 273 (.pointer (some (E 6)))]) ∧ Hid (Below w.heap.size w w') := by
  refine (readNumbers_n hS hc hM hE h4).mono ?_
  rintro e w' ⟨hb, ⟨ns', h1, h2⟩ | ⟨h1, h2⟩⟩
  · rw [h0.out] at h1; cases h1
  · exact ⟨h2, hb⟩
/- a frame's head by its parts -/
theorem hdF_list {F : List Nat} (h : (rdB F 0 256).2.1 ≠ 0) : hdF F = (5, [], 0) := by unfold hdF; rw [if_pos h]
theorem hdF_open {F : List Nat} (h : (rdB F 0 256).2.1 = 0) (h1 : (opn (rdB F 0 256).1).2 ≠ 0) : hdF F = ((opn (rdB F 0 256).1).2, [], 0) := by unfold hdF; rw [if_neg (by omega), if_pos h1]
theorem hdF_none {F : List Nat} (h : (rdB F 0 256).2.1 = 0) (h1 : (opn (rdB F 0 256).1).2 = 0) (h2 : hdN (opn (rdB F 0 256).1).1 = none) : hdF F = (5, [], 0) := by unfold hdF; rw [if_neg (by omega), if_neg (by omega), h2]
theorem hdF_some {F ns : List Nat} (h : (rdB F 0 256).2.1 = 0) (h1 : (opn (rdB F 0 256).1).2 = 0) (h2 : hdN (opn (rdB F 0 256).1).1 = some ns) : hdF F = (0, ns, (rdB F 0 256).2.2) := by unfold hdF; rw [if_neg (by omega), if_neg (by omega), h2]
theorem hdF_ok {F ns : List Nat} {p : Nat} (h : hdF F = (0, ns, p)) : (rdB F 0 256).2.1 = 0 ∧ (opn (rdB F 0 256).1).2 = 0 ∧ hdN (opn (rdB F 0 256).1).1 = some ns ∧ (rdB F 0 256).2.2 = p := by
  by_cases h1 : (rdB F 0 256).2.1 = 0
  · by_cases h2 : (opn (rdB F 0 256).1).2 = 0
    · cases h3 : hdN (opn (rdB F 0 256).1).1 with
      | none => rw [hdF_none h1 h2 h3] at h; cases h
      | some ns' => rw [hdF_some h1 h2 h3] at h; cases h; exact ⟨h1, h2, rfl, rfl⟩
    · rw [hdF_open h1 h2] at h
      simp only [Prod.mk.injEq] at h
      exact absurd h.1 h2
  · rw [hdF_list h1] at h
    cases h
theorem Mst.wfr0 {w w' w0 : World} {g : Nat} (h : Mst w0) (hb : Below w0.heap.size w0 w') : Mst w' := h.below hb h.lt
end Go.Proofs.YtkdgakcmhnadfaaGreatDoor

/- Gm -/
/- split of package frame, for all bytes. -/
/- errors turned -/
namespace Go.Proofs.YtkdgakcmhnadfaaGreatDoor
open Go.ChangeShapes Go.WideShapes Go.ChangeAt Go.RowKit
set_option maxRecDepth 20000
set_option linter.unusedVariables false
set_option linter.unusedSimpArgs false
/- where what stands behind p begins -/
def sfrom (a : Option Addr) (c p : Nat) : Option Addr := if c = p then a else a.map (·.add p)
/- the result's variable and the reader -/
structure Spl (w wr : World) (g : Nat) (a : Option Addr) (n c : Nat) (l : List Nat) (p : Nat) : Prop where
  rd : Rdr wr g (w.heap.size + 1) a n c l p
  out : Arr .i64 138 wr w.heap.size Z7
  ne : w.heap.size < g
  bel : Below w.heap.size w wr
theorem Spl.step {w wr w2 : World} {g : Nat} {a : Option Addr} {n c : Nat} {l : List Nat} {p q : Nat} (h : Spl w wr g a n c l p) (r : Rdr w2 g (w.heap.size + 1) a n c l q) (f : Wfr wr w2 g none) : Spl w w2 g a n c l q := by
  have h1 := h.ne
  have h2 := h.rd.lt
  exact ⟨r, (f.block _ (by omega) (by omega) (by simp [blkOf])).trans h.out, h1, f.below h.bel (by omega) (fun q hq => by simp [blkOf] at hq) h.bel.size⟩
theorem Spl.below {w wr w2 : World} {g : Nat} {a : Option Addr} {n c : Nat} {l : List Nat} {p : Nat} (h : Spl w wr g a n c l p) (hb : Below wr.heap.size wr w2) : Spl w w2 g a n c l p :=
  ⟨h.rd.below hb, h.out.below hb h.out.lt, h.ne, h.bel.trans (hb.mono h.bel.size)⟩
theorem rdB_small (F : List Nat) : (rdB F 0 256).1.length ≤ 140737488352256 := by
  unfold rdB
  split
  · rename_i h
    rw [List.length_take]
    omega
  · simp
theorem opn_le (l : List Nat) : (opn l).1.length ≤ l.length := by
  unfold opn
  split
  · simp
  · split
    · simp
    · simp
theorem opn_small (F : List Nat) : (opn (rdB F 0 256).1).1.length ≤ 140737488352256 := Nat.le_trans (opn_le _) (rdB_small F)
set_option maxHeartbeats 2000000 in
theorem split_b1 {w : World} {a : Option Addr} {n c M : Nat} {F : List Nat} {E : Nat → Addr} (hS : Hid (Sln w a n F)) (hc : Hid (a = none → c = 0)) (hM : Hid (Mst w)) (hE : Hid (Sent w M E)) (h4 : 8 ≤ M) (h1 : Hid ((rdB F 0 256).2.1 ≠ 0)) :
    Calls Tryz.prog 87 #[.slice a n c] w fun e w' => e = .returned (.tuple #[.agg (cs .i64 Z7), .slice none 0 0, .iface 273 (.pointer (some (E 6)))]) ∧ Hid (Below w.heap.size w w') := by
  obtain ⟨W0, HW0⟩ : ∃ W0, Hid (w.alloc (.cells #[.int .i64 0, .int .i64 0, .int .i64 0, .int .i64 0, .int .i64 0, .int .i64 0, .int .i64 0] 138) = W0) := ⟨_, rfl⟩
  have b0 : Hid (Below w.heap.size w W0 ∧ W0.heap.size = w.heap.size + 1) := by rw [← HW0.out]; exact ⟨(Below.refl _ w).alloc (Nat.le_refl _) _, by simp⟩
  have S0 : Hid (Sln W0 a n F) := hS.out.below b0.out.1
  have A0 : Hid (Arr .i64 138 W0 w.heap.size Z7) := by rw [← HW0.out]; exact Arr.new w .i64 138 Z7
  go_enter Tryz.func87, Tryz.ntmps87
  go_upto_region 2 with (go_at_call 113; rw [HW0.out]; refine (newReader_n S0 hc).mono ?_; rintro e w1 ⟨g, a', c', rfl, H1⟩)
  have P1 : Hid (Spl w w1 g a' n c' F 0) := by
    have h1 := b0.out.2
    have h2 := H1.out.2.1
    have h5 := H1.out.1
    rw [h1] at h5
    exact ⟨h5, A0.out.below H1.out.2.2 (by omega), by omega, b0.out.1.trans (H1.out.2.2.mono (by omega))⟩
  have R1 : Hid (Rdr w1 g (w.heap.size + 1) a' n c' F 0) := P1.out.rd
  have E1 : Hid (Sent w1 M E) := hE.out.below P1.out.bel
  clear A0 S0 H1
  go_wp2_with (first
    | (go_at_call 114; refine (rbytes_e R1 (by omega) E1 h4 h1).mono ?_; rintro e WX ⟨a2, m2, c2, rfl, H2⟩
       have AX : Hid (Arr .i64 138 WX w.heap.size Z7) := (H2.out.block _ P1.out.out.lt (by have := P1.out.ne; omega) (by simp [blkOf])).trans P1.out.out
       have BX : Hid (Below w.heap.size w WX) := H2.out.below P1.out.bel (by have := P1.out.ne; omega) (fun q hq => by simp [blkOf] at hq) P1.out.bel.size)
    | (refine wpList_st0 (k := .i64) (t := 138) (l := Z7) (l2 := Z7) (by rfl) (by rfl) 138 (.tmp 2) (.tmp 19) (by rfl) (by rfl) (by rfl) AX sz64 (by rfl) ?_))
  have FIN : Hid (Below w.heap.size w (WX.setRow w.heap.size (cs .i64 Z7))) := (Oth.setRow _).below BX.out (Nat.le_refl _)
  refine bodyPost_ret (res_arr3 (by rfl) (by rfl) (AX.out.setRow Z7) und64 sz64) rfl ?_
  exact ⟨rfl, FIN.out⟩
set_option maxHeartbeats 2000000 in
theorem split_b2 {w : World} {a : Option Addr} {n c M : Nat} {F : List Nat} {E : Nat → Addr} (hS : Hid (Sln w a n F)) (hc : Hid (a = none → c = 0)) (hM : Hid (Mst w)) (hE : Hid (Sent w M E)) (h4 : 8 ≤ M) (h1 : Hid ((rdB F 0 256).2.1 = 0)) (h2 : Hid ((opn (rdB F 0 256).1).2 ≠ 0)) :
    Calls Tryz.prog 87 #[.slice a n c] w fun e w' => e = .returned (.tuple #[.agg (cs .i64 Z7), .slice none 0 0, .iface 273 (.pointer (some (E (era (opn (rdB F 0 256).1).2))))]) ∧ Hid (Below w.heap.size w w') := by
  obtain ⟨W0, HW0⟩ : ∃ W0, Hid (w.alloc (.cells #[.int .i64 0, .int .i64 0, .int .i64 0, .int .i64 0, .int .i64 0, .int .i64 0, .int .i64 0] 138) = W0) := ⟨_, rfl⟩
  have b0 : Hid (Below w.heap.size w W0 ∧ W0.heap.size = w.heap.size + 1) := by rw [← HW0.out]; exact ⟨(Below.refl _ w).alloc (Nat.le_refl _) _, by simp⟩
  have S0 : Hid (Sln W0 a n F) := hS.out.below b0.out.1
  have A0 : Hid (Arr .i64 138 W0 w.heap.size Z7) := by rw [← HW0.out]; exact Arr.new w .i64 138 Z7
  go_enter Tryz.func87, Tryz.ntmps87
  go_upto_region 2 with (go_at_call 113; rw [HW0.out]; refine (newReader_n S0 hc).mono ?_; rintro e w1 ⟨g, a', c', rfl, H1⟩)
  have P1 : Hid (Spl w w1 g a' n c' F 0) := by
    have h1 := b0.out.2
    have h2 := H1.out.2.1
    have h5 := H1.out.1
    rw [h1] at h5
    exact ⟨h5, A0.out.below H1.out.2.2 (by omega), by omega, b0.out.1.trans (H1.out.2.2.mono (by omega))⟩
  have R1 : Hid (Rdr w1 g (w.heap.size + 1) a' n c' F 0) := P1.out.rd
  have E1 : Hid (Sent w1 M E) := hE.out.below P1.out.bel
  clear A0 S0 H1
  go_wp2_with (first
    | (go_at_call 114; refine (rbytes_z R1 (by omega) E1 h4 h1).mono ?_; rintro e w2 ⟨a2, m2, c2, rfl, H2⟩
       have P2 : Hid (Spl w w2 g a' n c' F (rdB F 0 256).2.2) := P1.out.step H2.out.2.1 H2.out.2.2
       have S2 : Hid (Sln w2 a2 m2 (rdB F 0 256).1) := H2.out.1.sln (by rw [H2.out.1.len]; exact rdB_small F)
       have Z2 : Hid (a2 = none → c2 = 0) := H2.out.1.cap0
       have N2 : m2 ≤ c2 := H2.out.1.cap
       have E2 : Hid (Sent w2 M E) := hE.out.below P2.out.bel)
    | (go_at_call 115; refine (open_e S2 Z2 N2 E2 h4 h2).mono ?_; rintro e WX ⟨a3, m3, c3, rfl, H3⟩
       have PX : Hid (Spl w WX g a' n c' F (rdB F 0 256).2.2) := P2.out.below H3.out
       have AX : Hid (Arr .i64 138 WX w.heap.size Z7) := PX.out.out)
    | (refine wpList_st0 (k := .i64) (t := 138) (l := Z7) (l2 := Z7) (by rfl) (by rfl) 138 (.tmp 2) (.tmp 28) (by rfl) (by rfl) (by rfl) AX sz64 (by rfl) ?_))
  have FIN : Hid (Below w.heap.size w (WX.setRow w.heap.size (cs .i64 Z7))) := (Oth.setRow _).below PX.out.bel (Nat.le_refl _)
  refine bodyPost_ret (res_arr3 (by rfl) (by rfl) (AX.out.setRow Z7) und64 sz64) rfl ?_
  exact ⟨rfl, FIN.out⟩
set_option maxHeartbeats 2000000 in
theorem split_b3 {w : World} {a : Option Addr} {n c M : Nat} {F : List Nat} {E : Nat → Addr} (hS : Hid (Sln w a n F)) (hc : Hid (a = none → c = 0)) (hM : Hid (Mst w)) (hE : Hid (Sent w M E)) (h4 : 8 ≤ M) (h1 : Hid ((rdB F 0 256).2.1 = 0)) (h2 : Hid ((opn (rdB F 0 256).1).2 = 0)) (h3 : Hid (hdN (opn (rdB F 0 256).1).1 = none)) :
    Calls Tryz.prog 87 #[.slice a n c] w fun e w' => e = .returned (.tuple #[.agg (cs .i64 Z7), .slice none 0 0, .iface 273 (.pointer (some (E 6)))]) ∧ Hid (Below w.heap.size w w') := by
  obtain ⟨W0, HW0⟩ : ∃ W0, Hid (w.alloc (.cells #[.int .i64 0, .int .i64 0, .int .i64 0, .int .i64 0, .int .i64 0, .int .i64 0, .int .i64 0] 138) = W0) := ⟨_, rfl⟩
  have b0 : Hid (Below w.heap.size w W0 ∧ W0.heap.size = w.heap.size + 1) := by rw [← HW0.out]; exact ⟨(Below.refl _ w).alloc (Nat.le_refl _) _, by simp⟩
  have S0 : Hid (Sln W0 a n F) := hS.out.below b0.out.1
  have A0 : Hid (Arr .i64 138 W0 w.heap.size Z7) := by rw [← HW0.out]; exact Arr.new w .i64 138 Z7
  go_enter Tryz.func87, Tryz.ntmps87
  go_upto_region 2 with (go_at_call 113; rw [HW0.out]; refine (newReader_n S0 hc).mono ?_; rintro e w1 ⟨g, a', c', rfl, H1⟩)
  have P1 : Hid (Spl w w1 g a' n c' F 0) := by
    have h1 := b0.out.2
    have h2 := H1.out.2.1
    have h5 := H1.out.1
    rw [h1] at h5
    exact ⟨h5, A0.out.below H1.out.2.2 (by omega), by omega, b0.out.1.trans (H1.out.2.2.mono (by omega))⟩
  have R1 : Hid (Rdr w1 g (w.heap.size + 1) a' n c' F 0) := P1.out.rd
  have E1 : Hid (Sent w1 M E) := hE.out.below P1.out.bel
  clear A0 S0 H1
  go_wp2_with (first
    | (go_at_call 114; refine (rbytes_z R1 (by omega) E1 h4 h1).mono ?_; rintro e w2 ⟨a2, m2, c2, rfl, H2⟩
       have P2 : Hid (Spl w w2 g a' n c' F (rdB F 0 256).2.2) := P1.out.step H2.out.2.1 H2.out.2.2
       have S2 : Hid (Sln w2 a2 m2 (rdB F 0 256).1) := H2.out.1.sln (by rw [H2.out.1.len]; exact rdB_small F)
       have Z2 : Hid (a2 = none → c2 = 0) := H2.out.1.cap0
       have N2 : m2 ≤ c2 := H2.out.1.cap
       have E2 : Hid (Sent w2 M E) := hE.out.below P2.out.bel)
    | (go_at_call 115; refine (open_z S2 Z2 N2 E2 h4 h2).mono ?_; rintro e w3 ⟨a3, m3, c3, rfl, H3⟩
       have P3 : Hid (Spl w w3 g a' n c' F (rdB F 0 256).2.2) := P2.out.below H3.out.2
       have S3 : Hid (Sln w3 a3 m3 (opn (rdB F 0 256).1).1) := H3.out.1.sln (by rw [H3.out.1.len]; exact opn_small F)
       have Z3 : Hid (a3 = none → c3 = 0) := H3.out.1.cap0
       have E3 : Hid (Sent w3 M E) := hE.out.below P3.out.bel
       have M3 : Hid (Mst w3) := hM.out.below P3.out.bel hM.out.lt)
    | (go_at_call 116; refine (rn_bad S3 Z3 M3 E3 h4 h3).mono ?_; rintro e w4 ⟨rfl, H4⟩
       have P4 : Hid (Spl w w4 g a' n c' F (rdB F 0 256).2.2) := P3.out.below H4.out
       have A4 : Hid (Arr .i64 138 (w4.alloc (.cells (cs .i64 Z7) 138)) w4.heap.size Z7) := Arr.new _ _ _ _
       obtain ⟨WX, HWX⟩ : ∃ WX, Hid ((w4.alloc (.cells (cs .i64 Z7) 138)).setRow w4.heap.size (cs .i64 Z7) = WX) := ⟨_, rfl⟩
       have PX : Hid (Spl w WX g a' n c' F (rdB F 0 256).2.2) := by rw [← HWX.out]; exact P4.out.below (below_arr w4 _ _ _ _)
       have AX : Hid (Arr .i64 138 WX w.heap.size Z7) := PX.out.out)
    | (refine wpList_st0 (k := .i64) (t := 138) (l := Z7) (l2 := Z7) (by rfl) (by rfl) 138 (.tmp 9) (.tmp 33) (by rfl) (by rfl) (by rfl) A4 sz64 (by rfl) ?_; refine (show _ = WX from HWX.out) ▸ ?_)
    | (refine wpList_st0 (k := .i64) (t := 138) (l := Z7) (l2 := Z7) (by rfl) (by rfl) 138 (.tmp 2) (.tmp 37) (by rfl) (by rfl) (by rfl) AX sz64 (by rfl) ?_))
  have FIN : Hid (Below w.heap.size w (WX.setRow w.heap.size (cs .i64 Z7))) := (Oth.setRow _).below PX.out.bel (Nat.le_refl _)
  refine bodyPost_ret (res_arr3 (by rfl) (by rfl) (AX.out.setRow Z7) und64 sz64) rfl ?_
  exact ⟨rfl, FIN.out⟩
set_option maxHeartbeats 4000000 in
theorem split_ok {w : World} {a : Option Addr} {n c M p : Nat} {F ns : List Nat} {E : Nat → Addr} (hS : Hid (Sln w a n F)) (hc : Hid (a = none → c = 0)) (hnc : n ≤ c) (hM : Hid (Mst w)) (hE : Hid (Sent w M E)) (h4 : 8 ≤ M) (h1 : Hid ((rdB F 0 256).2.1 = 0)) (h2 : Hid ((opn (rdB F 0 256).1).2 = 0)) (h3 : Hid (hdN (opn (rdB F 0 256).1).1 = some ns)) (hp : Hid ((rdB F 0 256).2.2 = p)) :
    Calls Tryz.prog 87 #[.slice a n c] w fun e w' => ∃ av, e = .returned (.tuple #[.agg (cs .i64 ns), .slice av (n - p) (c - p), .nilIface]) ∧ Hid (sfrom a c p = av ∧ Below w.heap.size w w') := by
  have L7 : Hid (ns.length = 7) := hdN_len h3.out
  obtain ⟨W0, HW0⟩ : ∃ W0, Hid (w.alloc (.cells #[.int .i64 0, .int .i64 0, .int .i64 0, .int .i64 0, .int .i64 0, .int .i64 0, .int .i64 0] 138) = W0) := ⟨_, rfl⟩
  have b0 : Hid (Below w.heap.size w W0 ∧ W0.heap.size = w.heap.size + 1) := by rw [← HW0.out]; exact ⟨(Below.refl _ w).alloc (Nat.le_refl _) _, by simp⟩
  have S0 : Hid (Sln W0 a n F) := hS.out.below b0.out.1
  have A0 : Hid (Arr .i64 138 W0 w.heap.size Z7) := by rw [← HW0.out]; exact Arr.new w .i64 138 Z7
  go_enter Tryz.func87, Tryz.ntmps87
  go_upto_region 2 with (go_at_call 113; rw [HW0.out]; refine (newReader_n S0 hc).mono ?_; rintro e w1 ⟨g, a', c', rfl, H1⟩)
  have P1 : Hid (Spl w w1 g a' n c' F 0) := by
    have h1 := b0.out.2
    have h2 := H1.out.2.1
    have h5 := H1.out.1
    rw [h1] at h5
    exact ⟨h5, A0.out.below H1.out.2.2 (by omega), by omega, b0.out.1.trans (H1.out.2.2.mono (by omega))⟩
  have R1 : Hid (Rdr w1 g (w.heap.size + 1) a' n c' F 0) := P1.out.rd
  have E1 : Hid (Sent w1 M E) := hE.out.below P1.out.bel
  clear A0 S0 H1
  go_wp2_with (first
    | (go_at_call 114; refine (rbytes_z R1 (by omega) E1 h4 h1).mono ?_; rintro e w2 ⟨a2, m2, c2, rfl, H2⟩
       have P2 : Hid (Spl w w2 g a' n c' F (rdB F 0 256).2.2) := P1.out.step H2.out.2.1 H2.out.2.2
       have S2 : Hid (Sln w2 a2 m2 (rdB F 0 256).1) := H2.out.1.sln (by rw [H2.out.1.len]; exact rdB_small F)
       have Z2 : Hid (a2 = none → c2 = 0) := H2.out.1.cap0
       have N2 : m2 ≤ c2 := H2.out.1.cap
       have E2 : Hid (Sent w2 M E) := hE.out.below P2.out.bel)
    | (go_at_call 115; refine (open_z S2 Z2 N2 E2 h4 h2).mono ?_; rintro e w3 ⟨a3, m3, c3, rfl, H3⟩
       have P3 : Hid (Spl w w3 g a' n c' F (rdB F 0 256).2.2) := P2.out.below H3.out.2
       have S3 : Hid (Sln w3 a3 m3 (opn (rdB F 0 256).1).1) := H3.out.1.sln (by rw [H3.out.1.len]; exact opn_small F)
       have Z3 : Hid (a3 = none → c3 = 0) := H3.out.1.cap0
       have E3 : Hid (Sent w3 M E) := hE.out.below P3.out.bel
       have M3 : Hid (Mst w3) := hM.out.below P3.out.bel hM.out.lt)
    | (go_at_call 116; refine (rn_ok S3 Z3 M3 E3 h4 h3).mono ?_; rintro e w4 ⟨rfl, H4⟩
       have P4 : Hid (Spl w w4 g a' n c' F (rdB F 0 256).2.2) := P3.out.below H4.out
       have A4 : Hid (Arr .i64 138 (w4.alloc (.cells (cs .i64 Z7) 138)) w4.heap.size Z7) := Arr.new _ _ _ _
       obtain ⟨WX, HWX⟩ : ∃ WX, Hid ((w4.alloc (.cells (cs .i64 Z7) 138)).setRow w4.heap.size (cs .i64 ns) = WX) := ⟨_, rfl⟩
       have PX : Hid (Spl w WX g a' n c' F (rdB F 0 256).2.2) := by rw [← HWX.out]; exact P4.out.below (below_arr w4 _ _ _ _)
       have AG0 : Hid (Arr .i64 138 WX w4.heap.size ns) := by rw [← HWX.out]; exact A4.out.setRow ns)
    | (refine wpList_st0 (k := .i64) (t := 138) (l := Z7) (l2 := ns) (by rfl) (by rfl) 138 (.tmp 9) (.tmp 33) (by rfl) (by rfl) (by rfl) A4 (by rw [L7.out]; exact sz64) (by rw [L7.out]; rfl) ?_; refine (show _ = WX from HWX.out) ▸ ?_))
  rw [hp.out] at PX
  obtain ⟨gn, HGN⟩ : ∃ gn, Hid (w4.heap.size = gn) := ⟨_, rfl⟩
  rw [HGN.out] at AG0 ⊢
  have GN : Hid (gn ≠ w.heap.size) := by
    intro h
    have h6 := P4.out.rd.lt
    have h7 := P4.out.ne
    have h8 := HGN.out
    omega
  have pn : p ≤ n := PX.out.rd.le
  have RX : Hid (Rdr WX.drew g (w.heap.size + 1) a' n c' F p) := PX.out.rd.drewN 1
  have AO : Hid (Arr .i64 138 WX.drew w.heap.size Z7) := PX.out.out
  have AG : Hid (Arr .i64 138 WX.drew gn ns) := AG0.out
  have BD : Hid (Below w.heap.size w WX.drew) := PX.out.bel.drew
  have hS1 : Rng .i64 WX.drew gn 0 ns := AG.out.rng
  have wsub : IntKind.i64.wrap ((n : Int) - ((n - p : Nat) : Int)) = (p : Int) := by have h9 := hS.out.sli.2.1; have h8 := hS.out.len; rw [IntKind.wrap_i64]; omega
  obtain ⟨av, HAV⟩ : ∃ av, Hid (sfrom a c p = av) := ⟨_, rfl⟩
  clear P1 R1 E1 H2 P2 S2 Z2 N2 E2 H3 P3 S3 Z3 E3 M3 H4 P4 A4 HWX PX AG0 HGN
  refine wp_region_till (S := fun L W => Rng .i64 W gn 0 ns) (by kernel_rfl) hS1 (fun hS => ?_)
  refine till_take (i := 1) (v := .slice a n c) rfl (by kernel_rfl) (by kernel_rfl) (by kernel_rfl) (fun _ _ _ h => h) (fun L w => Iff.rfl) (Or.inl ⟨by rfl, fun w => by go_simp⟩) hS (fun hSb => ?_)
  simp only [List.getElem_toArray, List.getElem_cons_zero, List.getElem_cons_succ, Act.put, List.setIfInBounds_toArray, List.set_cons_zero, List.set_cons_succ]
  clear hS
  refine till_take (i := 2) (v := .slice a n c) rfl (by kernel_rfl) (by kernel_rfl) (by kernel_rfl) (fun _ _ _ h => h) (fun L w => Iff.rfl) (Or.inl ⟨by rfl, fun w => by go_simp⟩) hSb (fun hS => ?_)
  simp only [List.getElem_toArray, List.getElem_cons_zero, List.getElem_cons_succ, Act.put, List.setIfInBounds_toArray, List.set_cons_zero, List.set_cons_succ]
  clear hSb
  refine till_take (i := 3) (v := .int .i64 (n : Int)) rfl (by kernel_rfl) (by kernel_rfl) (by kernel_rfl) (fun _ _ _ h => h) (fun L w => Iff.rfl) (Or.inl ⟨by rfl, fun w => by go_simp⟩) hS (fun hSb => ?_)
  simp only [List.getElem_toArray, List.getElem_cons_zero, List.getElem_cons_succ, Act.put, List.setIfInBounds_toArray, List.set_cons_zero, List.set_cons_succ]
  clear hS
  refine till_take (i := 4) (v := .pointer (some ⟨g, 0, none⟩)) rfl (by kernel_rfl) (by kernel_rfl) (by kernel_rfl) (fun _ _ _ h => h) (fun L w => Iff.rfl) (Or.inl ⟨by rfl, fun w => by go_simp⟩) hSb (fun hS => ?_)
  simp only [List.getElem_toArray, List.getElem_cons_zero, List.getElem_cons_succ, Act.put, List.setIfInBounds_toArray, List.set_cons_zero, List.set_cons_succ]
  clear hSb
  refine till_read (i := 0) (c := 8) (v := .agg (cs .i64 ns)) (T := fun W => Rng .i64 W gn 0 ns) rfl rfl (by kernel_rfl) (by kernel_rfl) (by kernel_rfl) (by kernel_rfl) (by kernel_rfl) (fun _ _ _ h => h) (fun L w => Iff.rfl) (fun L w h1 h2 => h2) (yieldsIf_ld (by rfl) 138 (.tmp 9) (by rfl) (by rfl) (fun w h => h) und64 (by rw [L7.out]; exact sz64)) hS (fun hSb => ?_)
  simp only [List.getElem_toArray, List.getElem_cons_zero, List.getElem_cons_succ, Act.put, List.setIfInBounds_toArray, List.set_cons_zero, List.set_cons_succ]
  clear hS
  refine till_one (i := 5) (by kernel_rfl) rfl (fun K hK => ?_)
  simp only [List.getElem_toArray, List.getElem_cons_zero, List.getElem_cons_succ]
  rw [if_pos (by rfl)]
  go_simp
  go_wp2_with (go_at_call 117; refine (lft_n RX).mono ?_; rintro e WY ⟨rfl, HY⟩)
  obtain ⟨j, hj⟩ := HY.out
  have AY : Arr .i64 138 WY w.heap.size Z7 := by rw [hj]; exact AO.out
  have GY : Arr .i64 138 WY gn ns := by rw [hj]; exact AG.out
  have BY : Hid (Below w.heap.size w WY) := by rw [hj]; exact below_drewN BD.out j
  clear hj HY
  refine hK.out _ _ (GY.rng) (fun hS => ?_)
  clear hK K
  try simp only [List.getElem_toArray, List.getElem_cons_zero, List.getElem_cons_succ, Act.put, List.setIfInBounds_toArray, List.set_cons_zero, List.set_cons_succ]
  clear hSb
  refine till_take (i := 6) (v := .int .i64 (p : Int)) rfl (by kernel_rfl) (by kernel_rfl) (by kernel_rfl) (fun _ _ _ h => h) (fun L w => Iff.rfl) (Or.inl ⟨by rfl, fun w => by go_simp⟩) hS (fun hSb => ?_)
  simp only [List.getElem_toArray, List.getElem_cons_zero, List.getElem_cons_succ, Act.put, List.setIfInBounds_toArray, List.set_cons_zero, List.set_cons_succ]
  clear hS
  refine till_take (i := 7) (v := .slice av (n - p) (c - p)) rfl (by kernel_rfl) (by kernel_rfl) (by kernel_rfl) (fun _ _ _ h => h) (fun L w => Iff.rfl) (Or.inl ⟨by rfl, fun w => by rw [← HAV.out, sfrom]; go_simp⟩) hSb (fun hS => ?_)
  simp only [List.getElem_toArray, List.getElem_cons_zero, List.getElem_cons_succ, Act.put, List.setIfInBounds_toArray, List.set_cons_zero, List.set_cons_succ]
  clear hSb
  refine till_one (i := 8) (by kernel_rfl) rfl (fun K hK => ?_)
  simp only [List.getElem_toArray, List.getElem_cons_zero, List.getElem_cons_succ]
  rw [if_pos (by rfl)]
  refine wp_st (k := .i64) (t := 138) (l := Z7) (l2 := ns) (by rfl) 138 (.tmp 2) (.tmp 39) (by rfl) (by rfl) (by rfl) AY (by rw [L7.out]; exact sz64) (by rw [L7.out]; rfl) ?_
  refine hK.out _ _ ((GY.setRow_ne _ GN.out).rng) (fun hSb => ?_)
  clear hK K
  try simp only [List.getElem_toArray, List.getElem_cons_zero, List.getElem_cons_succ, Act.put, List.setIfInBounds_toArray, List.set_cons_zero, List.set_cons_succ]
  clear hS
  refine till_one (i := 9) (by kernel_rfl) rfl (fun K hK => ?_)
  simp only [List.getElem_toArray, List.getElem_cons_zero, List.getElem_cons_succ]
  rw [if_pos (by rfl)]
  go_simp
  refine hK.out _ _ (hSb) (fun hS => ?_)
  clear hK K
  try simp only [List.getElem_toArray, List.getElem_cons_zero, List.getElem_cons_succ, Act.put, List.setIfInBounds_toArray, List.set_cons_zero, List.set_cons_succ]
  clear hSb
  refine till_one (i := 10) (by kernel_rfl) rfl (fun K hK => ?_)
  simp only [List.getElem_toArray, List.getElem_cons_zero, List.getElem_cons_succ]
  rw [if_pos (by rfl)]
  go_simp
  refine hK.out _ _ (hS) (fun hSb => ?_)
  clear hK K
  try simp only [List.getElem_toArray, List.getElem_cons_zero, List.getElem_cons_succ, Act.put, List.setIfInBounds_toArray, List.set_cons_zero, List.set_cons_succ]
  clear hS
  refine till_done (by kernel_rfl) ?_ _
  clear hSb
  go_wp2
  have FIN : Hid (Below w.heap.size w (WY.setRow w.heap.size (cs .i64 ns))) := (Oth.setRow _).below BY.out (Nat.le_refl _)
  refine bodyPost_ret (res_arr3 (by rfl) (by rfl) (AY.setRow ns) und64 (by rw [L7.out]; exact sz64)) rfl ?_
  exact ⟨av, rfl, HAV.out, FIN.out⟩
end Go.Proofs.YtkdgakcmhnadfaaGreatDoor
