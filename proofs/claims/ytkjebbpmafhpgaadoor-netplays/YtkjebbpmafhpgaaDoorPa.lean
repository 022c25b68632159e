/- The document's network in memory; its find and put. -/
import Derived.Test.YtkjebbpmafhpgaaDoorNj
namespace Go.Proofs.YtkjebbpmafhpgaaDoor
open Go.ChangeShapes Go.WideShapes Go.ChangeAt Go.RowKit
set_option maxRecDepth 20000
set_option linter.unusedVariables false
set_option linter.unusedSimpArgs false
/- the document's network: its struct at d, its letters in a row of its own -/
structure Rt (w : World) (lo d : Nat) (a : Option Addr) (X : List Lt) (g : Int) : Prop where
  st : ∃ n c, w.heap[d]? = some (.cells #[.slice a n c, .int .i64 g] 30 (0, 0)) ∧ Rw w lo 38 EL a n c X
  dl : lo ≤ d
  rs : Ris X g
  ln : X.length ≤ 4096
  gz : 0 ≤ g
section
variable {w w' : World} {lo d : Nat} {g : Int} {a : Option Addr} {X : List Lt}
theorem Rt.dlt (h : Rt w lo d a X g) : d < w.heap.size := by
  obtain ⟨n, c, h1, _⟩ := h.st
  exact (Array.getElem?_eq_some_iff.1 h1).1
theorem Rt.alt (h : Rt w lo d a X g) {q : Nat} (e : blkOf a = some q) : lo ≤ q ∧ q < w.heap.size ∧ q ≠ d := by
  obtain ⟨n, c, h1, h2⟩ := h.st
  refine ⟨(h2.lt e).1, (h2.lt e).2, ?_⟩
  rintro rfl
  obtain ⟨cur, h3, _⟩ := h2.blk e
  rw [h1] at h3
  cases h3
theorem Rt.keep (h : Rt w lo d a X g) (hb : ∀ q, (q = d ∨ blkOf a = some q) → w'.heap[q]? = w.heap[q]?) : Rt w' lo d a X g := by
  obtain ⟨⟨n, c, h1, h2⟩, h3, h4, h5, h6⟩ := h
  exact ⟨⟨n, c, (hb d (.inl rfl)).trans h1, h2.keep1 (fun q e => hb q (.inr e))⟩, h3, h4, h5, h6⟩
theorem Rt.below (h : Rt w lo d a X g) (hb : Below w.heap.size w w') : Rt w' lo d a X g := h.keep fun q hq => hb.block q (by
  rcases hq with rfl | e
  · exact h.dlt
  · exact (h.alt e).2.1)
end
theorem inf38 : (Tryd.prog.info? 38).map (fun i => (i.zero, i.size, i.bytes)) = some (some (.agg #[.int .i64 0, .int .i64 0, .int .i64 0, .string ⟨#[]⟩]), 4, 40) := by kernel_rfl
theorem inz38 : (Tryd.prog.info? 38).map (·.size) = some 4 := by kernel_rfl
/- where a number waits; -1: it doesn't -/
def fx (k : Int) (X : List Lt) : Int := if isL k X = true then (pl k X : Int) else -1
set_option maxHeartbeats 2000000 in
theorem rfind_n {w : World} {lo d : Nat} {g : Int} {a : Option Addr} {X : List Lt} (k : Int) (hN : Hid (Rt w lo d a X g)) :
    Calls Tryd.prog 31 #[.pointer (some ⟨d, 0, none⟩), .int .i64 k] w fun e w' => e = .returned (.int .i64 (fx k X)) ∧ Hid (Below w.heap.size w w') := by
  obtain ⟨n, c, h1, h2⟩ := hN.out.st
  have c0 : w.cell? ⟨d, 0, none⟩ = some (.slice a n c) := (cel2 h1).1
  have A : Hid (Rw w lo 38 EL a n c X) := h2
  have PW : Hid (X.Pairwise (fun x y => x.no < y.no)) := hN.out.rs.pw
  have LX : Hid (n = X.length) := h2.len
  have nb : n ≤ 4096 := by rw [LX.out]; exact hN.out.ln
  obtain ⟨F, HF⟩ : ∃ F, Hid (fx k X = F) := ⟨_, rfl⟩
  rw [HF.out]
  clear h1 h2
  go_enter Tryd.func31, Tryd.ntmps31
  go_wp2
  go_loopw [12] (fun ti wr => ∃ j : Nat, j ≤ n ∧ ti = .int .i64 (j : Int) ∧ Hid ((isL k X = true → j ≤ pl k X) ∧ Below w.heap.size w wr)) (fun ti _ => n - (intOf ti).toNat)
  case atStart => exact ⟨0, by omega, rfl, fun _ => Nat.zero_le _, Below.refl _ _⟩
  case round =>
    obtain ⟨j, hj, rfl, HB⟩ := hrel
    by_cases hlt : j < n
    · have i3 : (j : Int) < (n : Int) := by omega
      have kx : j < X.length := by rw [← LX.out]; exact hlt
      obtain ⟨b, rfl, q1, q2, e1⟩ := (A.out.below HB.out.2).at_ kx
      obtain ⟨x, Hx⟩ : ∃ x, Hid (X[j] = x) := ⟨X[j], (rfl : X[j] = X[j])⟩
      rw [Hx.out] at e1
      have EX : Hid (X[j]? = some x) := by show _ = _; rw [← Hx.out]; exact List.getElem?_eq_getElem kx
      have d0 : wr.cell? ⟨b, j * 4, none⟩ = some (.int .i64 x.no) := e1 0 _ rfl
      have d1 : wr.cell? ⟨b, j * 4 + 1, none⟩ = some (.int .i64 x.fm) := e1 1 _ rfl
      have d2 : wr.cell? ⟨b, j * 4 + 2, none⟩ = some (.int .i64 x.tt) := e1 2 _ rfl
      have d3 : wr.cell? ⟨b, j * 4 + 3, none⟩ = some (.string x.bs) := e1 3 _ rfl
      have BN : ∀ ob, Hid (Below w.heap.size w (wr.alloc ob)) := fun ob => HB.out.2.trans ((alloc1 wr _).mono HB.out.2.size)
      clear e1 Hx kx q1 q2
      by_cases hk : x.no = k
      · have FE : F = (j : Int) := by
          have h := pl_at PW.out EX.out hk
          rw [← HF.out]
          unfold fx
          rw [if_pos h.2, h.1]
        subst FE
        go_wp2
        go_ret
        exact ⟨rfl, (BN _).out⟩
      · have NX : Hid (isL k X = true → j + 1 ≤ pl k X) := fun h => by
          have h1 := HB.out.1 h
          rcases Nat.lt_or_ge j (pl k X) with h2 | h2
          · exact h2
          · obtain ⟨y, hy, hyk⟩ := isL_yes h
            have : pl k X = j := by omega
            rw [this, EX.out] at hy
            cases hy
            exact absurd hyk hk
        go_wp2
        go_roundw
        case rel => exact ⟨j + 1, by omega, by go_num, NX.out, (BN _).out⟩
        case measure => simp [intOf]; omega
    · have FE : F = -1 := by
        rw [← HF.out]
        unfold fx
        rw [if_neg]
        intro h
        obtain ⟨y, hy, _⟩ := isL_yes h
        have h1 := HB.out.1 h
        have h2 := (List.getElem?_eq_some_iff.1 hy).1
        have := LX.out
        omega
      subst FE
      go_wp2
      go_ret
      exact ⟨rfl, HB.out.2⟩
theorem rput_full {w : World} {lo d : Nat} {g : Int} {a : Option Addr} {X : List Lt} {no fm tt : Int} {bs : ByteArray} (hN : Hid (Rt w lo d a X g)) (hl : Hid (4096 ≤ X.length)) :
    Calls Tryd.prog 30 #[.pointer (some ⟨d, 0, none⟩), .agg #[.int .i64 no, .int .i64 fm, .int .i64 tt, .string bs]] w fun e w' => e = .returned (.tuple #[.int .i64 0, .int .i64 10]) ∧ Hid (Below w.heap.size w w') := by
  obtain ⟨n, c, h1, h2⟩ := hN.out.st
  have c0 : ∀ o, (w.alloc o).cell? ⟨d, 0, none⟩ = some (.slice a n c) := fun o => (cel2 ((Below.heap_alloc w o d hN.out.dlt).trans h1)).1
  have i1 : (4096 : Int) ≤ (n : Int) := by have := h2.len; have := hl.out; omega
  clear h1 h2
  go_enter Tryd.func30, Tryd.ntmps30
  go_wp2
  go_ret2
  exact ⟨rfl, alloc1 w _⟩
set_option maxHeartbeats 4000000 in
theorem rput_ok {w : World} {lo d : Nat} {g : Int} {a : Option Addr} {X : List Lt} {no fm tt : Int} {bs : ByteArray} (hN : Hid (Rt w lo d a X g)) (hl : Hid (X.length < 4096)) (hg : Hid (g < 4611686018427387904)) (hs : Hid (bs.size ≤ 140737488351232)) :
    Calls Tryd.prog 30 #[.pointer (some ⟨d, 0, none⟩), .agg #[.int .i64 no, .int .i64 fm, .int .i64 tt, .string bs]] w fun e w' => ∃ a', e = .returned (.tuple #[.int .i64 (g + 1), .int .i64 0]) ∧ Hid (Rt w' lo d a' (X ++ [⟨g + 1, fm, tt, bs⟩]) (g + 1) ∧ NF w w' d a a') := by
  obtain ⟨n, c, h1, h2⟩ := hN.out.st
  have dl := hN.out.dlt
  have cc0 : ∀ o, (w.alloc o).cell? ⟨d, 0, none⟩ = some (.slice a n c) := fun o => (cel2 ((Below.heap_alloc w o d dl).trans h1)).1
  have i1 : ¬ ((4096 : Int) ≤ (n : Int)) := by have := h2.len; have := hl.out; omega
  have c1 : ∀ o, (w.alloc o).cell? ⟨d, 1, none⟩ = some (.int .i64 g) := fun o => (World.cell?_of_block (a := ⟨d, 1, none⟩) (Below.heap_alloc w o d dl)).trans (by simp [World.cell?, h1])
  have fz : ∀ o, (w.alloc o).frozen? ⟨d, 1, none⟩ = false := fun o => by
    have := Below.heap_alloc w o d dl
    simp [World.frozen?, this, h1]
  have wq : IntKind.i64.wrap (g + 1) = g + 1 := by rw [IntKind.wrap_i64]; have := hg.out; have := hN.out.gz; omega
  have c5 : ∀ o v, ((w.setCell ⟨d, 1, none⟩ v).alloc o).cell? ⟨d, 1, none⟩ = some v := fun o v => by
    have h := set_blk h1 1 v
    have hlt : d < (w.setCell ⟨d, 1, none⟩ v).heap.size := (Array.getElem?_eq_some_iff.1 h).1
    have h3 := (Below.heap_alloc (w.setCell ⟨d, 1, none⟩ v) o d hlt).trans h
    simp [World.cell?, h3]
  have n1 : ¬ (d = w.heap.size) := by omega
  have n2 : ¬ (w.heap.size = d) := by omega
  obtain ⟨p, Hp⟩ : ∃ p, Hid (w.heap.size = p) := ⟨_, rfl⟩
  have DP : d ≠ p := by have := Hp.out; omega
  have SZ0 : (w.setCell ⟨d, 1, none⟩ (.int .i64 (g + 1))).heap.size = p := by rw [← Hp.out]; simp [World.setCell]
  obtain ⟨wd, Hwd⟩ : ∃ wd, Hid (((w.setCell ⟨d, 1, none⟩ (.int .i64 (g + 1))).alloc (.cells #[.int .i64 (g + 1), .int .i64 fm, .int .i64 tt, .string bs] 38)).drew = wd) := ⟨_, rfl⟩
  have K1 : Hid (wd.heap[d]? = some (.cells #[.slice a n c, .int .i64 (g + 1)] 30 (0, 0))) := by
    rw [← Hwd.out]
    have e2 := set_blk h1 1 (.int .i64 (g + 1))
    exact (Below.heap_alloc (w.setCell ⟨d, 1, none⟩ (.int .i64 (g + 1))) _ d (by rw [SZ0, ← Hp.out]; exact dl)).trans e2
  have K2 : Hid (wd.heap[p]? = some (.cells #[.int .i64 (g + 1), .int .i64 fm, .int .i64 tt, .string bs] 38 (0, 0))) := by
    rw [← Hwd.out]
    have h := heap_alloc_new (w.setCell ⟨d, 1, none⟩ (.int .i64 (g + 1))) (.cells #[.int .i64 (g + 1), .int .i64 fm, .int .i64 tt, .string bs] 38)
    rw [SZ0] at h
    exact h
  have C1 : Hid (Ch w wd (fun q => q = d)) := by
    rw [← Hwd.out]
    exact ((Ch.set w d 1 _).trans (Ch.alloc _ _ _)).trans (Ch.drew _ _)
  have R1 : Hid (Rw wd lo 38 EL a n c X) := h2.keep1 (fun q e => C1.out.block q (h2.lt e).2 (fun h => (hN.out.alt e).2.2 h))
  have SZ : Hid (wd.heap.size = p + 1) := by rw [← Hwd.out]; show _ = _; rw [← SZ0]; simp
  clear SZ0
  have LN : Hid (n = X.length) := h2.len
  have AL : Hid (∀ q, blkOf a = some q → q < p ∧ q ≠ d) := fun q e => ⟨by rw [← Hp.out]; exact (h2.lt e).2, (hN.out.alt e).2.2⟩
  clear h1 h2
  go_enter Tryd.func30, Tryd.ntmps30
  go_upto_region 5 with (fail)
  rw [Hp.out]
  obtain ⟨v2, Hv2⟩ : ∃ v2, Hid (wd.alloc (.cells #[.int .i64 (g + 1), .int .i64 fm, .int .i64 tt, .string bs] 38) = v2) := ⟨_, rfl⟩
  have Hb : Hid (wd.heap.size = p + 1) := SZ.out
  have b2 : Hid (Below wd.heap.size wd v2) := by rw [← Hv2.out]; exact alloc1 wd _
  have J1 : Hid (v2.heap[d]? = some (.cells #[.slice a n c, .int .i64 (g + 1)] 30 (0, 0))) := (b2.out.block d (Array.getElem?_eq_some_iff.1 K1.out).1).trans K1.out
  have J2 : Hid (v2.heap[p]? = some (.cells #[.int .i64 (g + 1), .int .i64 fm, .int .i64 tt, .string bs] 38 (0, 0))) := (b2.out.block p (Array.getElem?_eq_some_iff.1 K2.out).1).trans K2.out
  have J3 : v2.heap[p + 1]? = some (.cells (EL.e ⟨g + 1, fm, tt, bs⟩).toArray 38 (0, 0)) := by rw [← Hv2.out, ← SZ.out]; exact heap_alloc_new wd _
  have R2 : Rw v2 lo 38 EL a n c X := R1.out.below b2.out
  have lo2 : lo ≤ v2.heap.size := by have := hN.out.dl; have := b2.out.size; have := SZ.out; have := Hp.out; omega
  obtain ⟨a', c', w3, r1, r2, r3, r4⟩ := app_one (t := 28) (e := 38) Tryd.underlying28 inf38 rfl (by decide) R2.row J3 (EL.len _) (EL.one _) (by have := LN.out; have := hl.out; omega) (by have := LN.out; have := hl.out; unfold maxLen; omega) lo2
  have HA : Hid ((Builtin.append_ #[28, 28] 28 #[.slice a n c, .slice (some ⟨p + 1, 0, none⟩) 1 1]).run Tryd.prog v2 = .ok (.slice a' (n + 1) c') w3) := r1
  have M1 : Hid (w3.heap[d]? = some (.cells #[.slice a n c, .int .i64 (g + 1)] 30 (0, 0))) := (r3.block d (Array.getElem?_eq_some_iff.1 J1.out).1 (fun e => (AL.out d e.symm).2 rfl)).trans J1.out
  have M2 : Hid (w3.heap[p]? = some (.cells #[.int .i64 (g + 1), .int .i64 fm, .int .i64 tt, .string bs] 38 (0, 0))) := (r3.block p (Array.getElem?_eq_some_iff.1 J2.out).1 (fun e => by have := (AL.out p e.symm).1; omega)).trans J2.out
  have R3 : Hid (w3.ownsRow lo 38 4 (.slice a' (n + 1) c') (n + 1) (EL.fl (X ++ [⟨g + 1, fm, tt, bs⟩]))) := by rw [EL.fl_app, EL.fl_one]; exact r2
  have NW : Hid (∀ q, blkOf a' = some q → blkOf a = some q ∨ v2.heap.size ≤ q) := r4
  have G3 : Hid (Ch v2 w3 (fun q => blkOf a = some q)) := by
    have hb := grown_below r3 (Nat.zero_le _) (fun q _ => Nat.zero_le _)
    exact ⟨hb.os, hb.tape, hb.output, hb.size, fun k hk hn => r3.block k hk (fun e => hn e.symm)⟩
  have s0 : w3.cell? ⟨d, 0, none⟩ = some (.slice a n c) := (cel2 M1.out).1
  have s1 : w3.frozen? ⟨d, 0, none⟩ = false := by simp [World.frozen?, M1.out]
  have e4 : ∀ v, (w3.setCell ⟨d, 0, none⟩ v).cell? ⟨p, 0, none⟩ = some (.int .i64 (g + 1)) := fun v => by
    have h : (w3.setCell ⟨d, 0, none⟩ v).heap[p]? = _ := (Below.heap_setCell _ _ _ _ (Ne.symm DP)).trans M2.out
    exact (cel4 h).1
  clear r1 r2 r3 r4 R2 J3
  refine wp_region_seqL (C := fun W => W.heap[d]? = some (.cells #[.slice a n c, .int .i64 (g + 1)] 30 (0, 0)) ∧ W.heap[p]? = some (.cells #[.int .i64 (g + 1), .int .i64 fm, .int .i64 tt, .string bs] 38 (0, 0))) [(0, false), (1, false), (2, false), (3, false), (4, false), (5, false), (6, true), (7, true), (8, false), (9, false), (10, true)] 10 (by kernel_rfl) (by kernel_rfl) (by rw [Hwd.out]; exact ⟨K1.out, K2.out⟩) ?_
  rw [Hwd.out]
  clear Hwd
  refine seqL_take (o := { dst := some 24, op := Go.Op.move (Go.Operand.tmp 0), type := 27, pos := "ref.go:34", after := #[], guard := none }) (v := .pointer (some ⟨d, 0, none⟩)) (by kernel_rfl) (fun _ _ _ h => h) (Or.inl ⟨by kernel_rfl, fun W hW => by go_simp⟩) ?_
  simp only [List.getElem_toArray, List.getElem_cons_zero, List.getElem_cons_succ, Act.put, List.setIfInBounds_toArray, List.set_cons_zero, List.set_cons_succ]
  refine seqL_take (o := { dst := some 25, op := Go.Op.move (Go.Operand.tmp 0), type := 27, pos := "ref.go:34", after := #[], guard := none }) (v := .pointer (some ⟨d, 0, none⟩)) (by kernel_rfl) (fun _ _ _ h => h) (Or.inl ⟨by kernel_rfl, fun W hW => by go_simp⟩) ?_
  simp only [List.getElem_toArray, List.getElem_cons_zero, List.getElem_cons_succ, Act.put, List.setIfInBounds_toArray, List.set_cons_zero, List.set_cons_succ]
  refine seqL_take (o := { dst := some 26, op := Go.Op.nilCheck (Go.Operand.tmp 25), type := 0, pos := "ref.go:34", after := #[{ on := 1, ground := Go.Ground.data }], guard := none }) (v := .pointer (some ⟨d, 0, none⟩)) (by kernel_rfl) (fun _ _ _ h => h) (Or.inl ⟨by kernel_rfl, fun W hW => by go_simp⟩) ?_
  simp only [List.getElem_toArray, List.getElem_cons_zero, List.getElem_cons_succ, Act.put, List.setIfInBounds_toArray, List.set_cons_zero, List.set_cons_succ]
  refine seqL_take (o := { dst := some 27, op := Go.Op.fieldAddr 30 (Go.Operand.tmp 26) 0, type := 0, pos := "ref.go:34", after := #[{ on := 2, ground := Go.Ground.data }], guard := none }) (v := .pointer (some ⟨d, 0, none⟩)) (by kernel_rfl) (fun _ _ _ h => h) (Or.inl ⟨by kernel_rfl, fun W hW => by go_simp⟩) ?_
  simp only [List.getElem_toArray, List.getElem_cons_zero, List.getElem_cons_succ, Act.put, List.setIfInBounds_toArray, List.set_cons_zero, List.set_cons_succ]
  refine seqL_take (o := { dst := some 28, op := Go.Op.load 28 (Go.Operand.tmp 27), type := 28, pos := "ref.go:34", after := #[{ on := 3, ground := Go.Ground.data }], guard := none }) (v := .slice a n c) (by kernel_rfl) (fun _ _ _ h => h) (Or.inl ⟨by kernel_rfl, fun W hW => by obtain ⟨q0, q1⟩ := cel2 hW.1; go_simp⟩) ?_
  simp only [List.getElem_toArray, List.getElem_cons_zero, List.getElem_cons_succ, Act.put, List.setIfInBounds_toArray, List.set_cons_zero, List.set_cons_succ]
  refine seqL_take (o := { dst := some 29, op := Go.Op.load 38 (Go.Operand.tmp 3), type := 38, pos := "ref.go:34", after := #[], guard := none }) (v := .agg #[.int .i64 (g + 1), .int .i64 fm, .int .i64 tt, .string bs]) (by kernel_rfl) (fun _ _ _ h => h) (Or.inl ⟨by kernel_rfl, fun W hW => by obtain ⟨q0, q1, q2, q3⟩ := cel4 hW.2; go_simp⟩) ?_
  simp only [List.getElem_toArray, List.getElem_cons_zero, List.getElem_cons_succ, Act.put, List.setIfInBounds_toArray, List.set_cons_zero, List.set_cons_succ]
  refine seqL_call (o := { dst := some 30, op := Go.Op.buildSlice 28 1 #[(0, Go.Operand.tmp 29)], type := 28, pos := "ref.go:34", after := #[{ on := 5, ground := Go.Ground.data }], guard := none }) (by kernel_rfl) (fun KK hK => ?_)
  rw [if_pos (by kernel_rfl)]
  go_simp
  go_wp2
  rw [Hb.out, Hv2.out]
  refine hK.out _ _ (.inr (⟨J1.out, J2.out⟩)) ?_
  clear hK KK
  try simp only [List.getElem_toArray, List.getElem_cons_zero, List.getElem_cons_succ, Act.put, List.setIfInBounds_toArray, List.set_cons_zero, List.set_cons_succ]
  refine seqL_call (o := { dst := some 31, op := Go.Op.call { callee := Go.Callee.builtin Go.Builtin.append, args := #[Go.Operand.tmp 28, Go.Operand.tmp 30], argTypes := #[28, 28] }, type := 28, pos := "ref.go:34", after := #[{ on := 4, ground := Go.Ground.data }, { on := 6, ground := Go.Ground.data }], guard := none }) (by kernel_rfl) (fun KK hK => ?_)
  rw [if_pos (by kernel_rfl)]
  refine wp_app (t := 28) (.tmp 28) (.tmp 30) (by rfl) (by rfl) (by rfl) (by rfl) HA ?_
  refine hK.out _ _ (.inr (⟨M1.out, M2.out⟩)) ?_
  clear hK KK
  try simp only [List.getElem_toArray, List.getElem_cons_zero, List.getElem_cons_succ, Act.put, List.setIfInBounds_toArray, List.set_cons_zero, List.set_cons_succ]
  refine seqL_take (o := { dst := some 32, op := Go.Op.nilCheck (Go.Operand.tmp 24), type := 0, pos := "ref.go:34", after := #[{ on := 0, ground := Go.Ground.data }, { on := 0, ground := Go.Ground.phase }, { on := 1, ground := Go.Ground.phase }, { on := 2, ground := Go.Ground.phase }, { on := 3, ground := Go.Ground.phase }, { on := 4, ground := Go.Ground.phase }, { on := 5, ground := Go.Ground.phase }, { on := 6, ground := Go.Ground.phase }, { on := 7, ground := Go.Ground.phase }], guard := none }) (v := .pointer (some ⟨d, 0, none⟩)) (by kernel_rfl) (fun _ _ _ h => h) (Or.inl ⟨by kernel_rfl, fun W hW => by go_simp⟩) ?_
  simp only [List.getElem_toArray, List.getElem_cons_zero, List.getElem_cons_succ, Act.put, List.setIfInBounds_toArray, List.set_cons_zero, List.set_cons_succ]
  refine seqL_take (o := { dst := some 33, op := Go.Op.fieldAddr 30 (Go.Operand.tmp 32) 0, type := 0, pos := "ref.go:34", after := #[{ on := 8, ground := Go.Ground.data }, { on := 0, ground := Go.Ground.phase }, { on := 1, ground := Go.Ground.phase }, { on := 2, ground := Go.Ground.phase }, { on := 3, ground := Go.Ground.phase }, { on := 4, ground := Go.Ground.phase }, { on := 5, ground := Go.Ground.phase }, { on := 6, ground := Go.Ground.phase }, { on := 7, ground := Go.Ground.phase }], guard := none }) (v := .pointer (some ⟨d, 0, none⟩)) (by kernel_rfl) (fun _ _ _ h => h) (Or.inl ⟨by kernel_rfl, fun W hW => by go_simp⟩) ?_
  simp only [List.getElem_toArray, List.getElem_cons_zero, List.getElem_cons_succ, Act.put, List.setIfInBounds_toArray, List.set_cons_zero, List.set_cons_succ]
  refine seqL_call (o := { dst := none, op := Go.Op.store 28 (Go.Operand.tmp 33) (Go.Operand.tmp 31), type := 0, pos := "ref.go:34", after := #[{ on := 9, ground := Go.Ground.data }, { on := 7, ground := Go.Ground.data }, { on := 7, ground := Go.Ground.chain }, { on := 0, ground := Go.Ground.phase }, { on := 1, ground := Go.Ground.phase }, { on := 2, ground := Go.Ground.phase }, { on := 3, ground := Go.Ground.phase }, { on := 4, ground := Go.Ground.phase }, { on := 5, ground := Go.Ground.phase }, { on := 6, ground := Go.Ground.phase }, { on := 7, ground := Go.Ground.phase }], guard := none }) (by kernel_rfl) (fun KK hK => ?_)
  rw [if_pos (by kernel_rfl)]
  go_simp
  refine hK.out _ _ (by first | exact .inl rfl | exact .inl trivial | simp) ?_
  clear hK KK
  try simp only [List.getElem_toArray, List.getElem_cons_zero, List.getElem_cons_succ, Act.put, List.setIfInBounds_toArray, List.set_cons_zero, List.set_cons_succ]
  show (Exit.then _ _) .normal _ _
  have e5 : (w3.setCell ⟨d, 0, none⟩ (.slice a' (n + 1) c')).cell? ⟨d, 1, none⟩ = some (.int .i64 (g + 1)) := (cel2 (set_blk M1.out 0 _)).2
  go_wp2
  go_ret2
  have F1 : (w3.setCell ⟨d, 0, none⟩ (.slice a' (n + 1) c')).heap[d]? = some (.cells #[.slice a' (n + 1) c', .int .i64 (g + 1)] 30 (0, 0)) := set_blk M1.out 0 _
  have NA : ∀ q, blkOf a' = some q → q ≠ d := fun q e => by
    rcases NW.out q e with h | h
    · exact (AL.out q h).2
    · have := b2.out.size; have := SZ.out; have := Hp.out; omega
  have R4 : Rw (w3.setCell ⟨d, 0, none⟩ (.slice a' (n + 1) c')) lo 38 EL a' (n + 1) c' (X ++ [⟨g + 1, fm, tt, bs⟩]) := ⟨rown_bel R3.out (fun q e => by rw [ownBlock_slice] at e; exact Below.heap_setCell _ _ _ _ (NA q e)), by decide⟩
  refine ⟨a', rfl, ⟨⟨n + 1, c', F1, R4⟩, hN.out.dl, ris_snoc hN.out.gz hN.out.rs rfl hs.out, by rw [List.length_append]; have := hl.out; simp; omega, by have := hN.out.gz; omega⟩, ?_, fun q e => ?_⟩
  · refine (((C1.out.then (Ch.below (S := fun _ => False) b2.out) (fun q _ h => Or.inl h) (fun q _ h => h.elim)).then G3.out (fun q _ h => h) (fun q _ h => Or.inr h)).then (Ch.set w3 d 0 _) (fun q _ h => h) (fun q _ h => Or.inl h))
  · rcases NW.out q e with h | h
    · exact .inl h
    · have := b2.out.size; have := SZ.out; have := Hp.out; exact .inr (by omega)
end Go.Proofs.YtkjebbpmafhpgaaDoor
