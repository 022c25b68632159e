/- The document's network: Deliver. -/
import Derived.Test.YtkjebbpmafhpgaaDoorPb
namespace Go.Proofs.YtkjebbpmafhpgaaDoor
open Go.ChangeShapes Go.WideShapes Go.ChangeAt Go.RowKit
set_option maxRecDepth 20000
set_option linter.unusedVariables false
set_option linter.unusedSimpArgs false
theorem inf38s : (Tryd.prog.info? 38).map (·.size) = some 4 := by kernel_rfl
theorem oc4s (x y z : Int) (s : ByteArray) : (#[.int .i64 x, .int .i64 y, .int .i64 z, .string s] : Array Value).all (·.oneCell') = true := by simp [Value.oneCell']
theorem res21 {fn : Func} (h : fn.results = #[.cell 4 38, .tmp 5]) (tmps : Array Value) (w : World) (g2 : Nat) (A : Array Value) (v : Value) (hp2 : tmps[4]?.getD undef = .pointer (some ⟨g2, 0, none⟩)) (hp3 : tmps[5]?.getD undef = v) (hg : w.heap[g2]? = some (.cells A 38 (0, 0))) (hA : A.size = 4) : (results fn tmps).run Tryd.prog w = .ok (.tuple #[.agg A, v]) w := by
  simp [results, h, hp2, hp3, asAddr, run_loadVar_row w g2 38 38 A (0, 0) _ hg Tryd.underlying38 rfl (by rw [hA]; exact inf38s)]
set_option maxHeartbeats 1000000 in
theorem rdel_gone {w : World} {lo d : Nat} {g k : Int} {a : Option Addr} {X : List Lt} (hN : Hid (Rt w lo d a X g)) (hk : Hid (isL k X = false)) :
    Calls Tryd.prog 21 #[.pointer (some ⟨d, 0, none⟩), .int .i64 k] w fun e w' => e = .returned (.tuple #[.agg #[.int .i64 0, .int .i64 0, .int .i64 0, .string ⟨#[]⟩], .int .i64 8]) ∧ Hid (Below w.heap.size w w') := by
  obtain ⟨q, Hq⟩ : ∃ q, Hid (w.heap.size = q) := ⟨_, rfl⟩
  obtain ⟨w1, Hw1⟩ : ∃ w1, Hid (w.alloc (.cells #[.int .i64 0, .int .i64 0, .int .i64 0, .string ⟨#[]⟩] 38) = w1) := ⟨_, rfl⟩
  have B1 : Hid (Below w.heap.size w w1) := by rw [← Hw1.out]; exact alloc1 w _
  have N1 : Hid (Rt w1 lo d a X g) := hN.out.below B1.out
  have K1 : Hid (w1.heap[q]? = some (.cells #[.int .i64 0, .int .i64 0, .int .i64 0, .string ⟨#[]⟩] 38 (0, 0))) := by rw [← Hw1.out, ← Hq.out]; exact heap_alloc_new w _
  go_enter Tryd.func21, Tryd.ntmps21
  go_upto_region 1 with (fail)
  rw [Hw1.out, Hq.out]
  go_upto_region 3 with (go_at_call 31; refine (rfind_n k N1).mono ?_; rintro e w2 ⟨rfl, H2⟩; rw [fx_no hk])
  have K2 : Hid (w2.heap[q]? = some (.cells #[.int .i64 0, .int .i64 0, .int .i64 0, .string ⟨#[]⟩] 38 (0, 0))) := (H2.out.block q (Array.getElem?_eq_some_iff.1 K1.out).1).trans K1.out
  go_wp2_with (refine wpList_store_row (by rfl) 38 (.tmp 4) (.tmp 13) (by rfl) q #[.int .i64 0, .int .i64 0, .int .i64 0, .string ⟨#[]⟩] (by rfl) (by rfl) 38 #[.int .i64 0, .int .i64 0, .int .i64 0, .string ⟨#[]⟩] K2.out inf38s rfl (oc4s _ _ _ _) ?_)
  refine bodyPost_ret (res21 Tryd.results21 _ _ q #[.int .i64 0, .int .i64 0, .int .i64 0, .string ⟨#[]⟩] (.int .i64 8) (by rfl) (by rfl) (setRow_heap _ _ _ _ _ _ K2.out) rfl) rfl ⟨rfl, ?_⟩
  exact below_setRow (B1.out.trans (H2.out.mono B1.out.size)) (by rw [Hq.out]; exact Nat.le_refl _) _
set_option maxHeartbeats 4000000 in
theorem rdel_ok {w : World} {lo d : Nat} {g k : Int} {a : Option Addr} {X : List Lt} {x : Lt} (hN : Hid (Rt w lo d a X g)) (hx : Hid (X[pl k X]? = some x)) (hk : Hid (isL k X = true)) :
    Calls Tryd.prog 21 #[.pointer (some ⟨d, 0, none⟩), .int .i64 k] w fun e w' => ∃ a', e = .returned (.tuple #[.agg #[.int .i64 x.no, .int .i64 x.fm, .int .i64 x.tt, .string x.bs], .int .i64 0]) ∧ Hid (Rt w' lo d a' (X.eraseIdx (pl k X)) g ∧ NF w w' d a a') := by
  obtain ⟨P, HP⟩ : ∃ P, Hid (pl k X = P) := ⟨_, rfl⟩
  rw [HP.out] at hx
  have PL : P < X.length := (List.getElem?_eq_some_iff.1 hx.out).1
  have e0 := (List.getElem?_eq_some_iff.1 hx.out).2
  obtain ⟨q, Hq⟩ : ∃ q, Hid (w.heap.size = q) := ⟨_, rfl⟩
  obtain ⟨w1, Hw1⟩ : ∃ w1, Hid (w.alloc (.cells #[.int .i64 0, .int .i64 0, .int .i64 0, .string ⟨#[]⟩] 38) = w1) := ⟨_, rfl⟩
  have B1 : Hid (Below w.heap.size w w1) := by rw [← Hw1.out]; exact alloc1 w _
  have N1 : Hid (Rt w1 lo d a X g) := hN.out.below B1.out
  have K1 : Hid (w1.heap[q]? = some (.cells #[.int .i64 0, .int .i64 0, .int .i64 0, .string ⟨#[]⟩] 38 (0, 0))) := by rw [← Hw1.out, ← Hq.out]; exact heap_alloc_new w _
  obtain ⟨n, c, h1, h2⟩ := N1.out.st
  have hn := h2.len
  obtain ⟨b, rfl, q1, q2, q3⟩ := h2.at_ PL
  have pn : P < n := by omega
  have i1 : (P : Int) < (n : Int) := by omega
  have i0 : ¬ ((P : Int) < 0) := by omega
  have LN : Hid (n = X.length) := hn
  have NB : Hid (n ≤ 4096) := by show _ ≤ _; rw [hn]; exact N1.out.ln
  have NC : n ≤ c := h2.cap
  have LD : Hid (∀ w2, Below w1.heap.size w1 w2 → w2.heap[d]? = some (.cells #[.slice (some ⟨b, 0, none⟩) n c, .int .i64 g] 30 (0, 0)) ∧ w2.rangeAt b (P * 4) (EL.e x) ∧ Rw w2 lo 38 EL (some ⟨b, 0, none⟩) n c X) := fun w2 hb => by
    obtain ⟨b', e', _, _, r⟩ := (h2.below hb).at_ PL
    cases e'
    rw [e0] at r
    exact ⟨(hb.block d (Array.getElem?_eq_some_iff.1 h1).1).trans h1, r, h2.below hb⟩
  have QD : Hid (q ≠ d ∧ q ≠ b) := by
    have := hN.out.dlt
    have := (hN.out.alt (q := b) rfl).2.1
    have := Hq.out
    exact ⟨by omega, by omega⟩
  have DB : Hid (d ≠ b) := fun e => (hN.out.alt (q := b) rfl).2.2 e.symm
  clear q1 q2 q3 h1 h2 hn e0
  rw [HP.out]
  go_enter Tryd.func21, Tryd.ntmps21
  go_upto_region 1 with (fail)
  rw [Hw1.out, Hq.out]
  go_upto_region 4 with (go_at_call 31; refine (rfind_n k N1).mono ?_; rintro e w2 ⟨rfl, H2⟩; rw [fx_yes hk HP])
  have c0 : w2.cell? ⟨d, 0, none⟩ = some (.slice (some ⟨b, 0, none⟩) n c) := (cel2 (LD.out w2 H2.out).1).1
  have d0 : w2.cell? ⟨b, P * 4, none⟩ = some (.int .i64 x.no) := (LD.out w2 H2.out).2.1 0 _ rfl
  have d1 : w2.cell? ⟨b, P * 4 + 1, none⟩ = some (.int .i64 x.fm) := (LD.out w2 H2.out).2.1 1 _ rfl
  have d2 : w2.cell? ⟨b, P * 4 + 2, none⟩ = some (.int .i64 x.tt) := (LD.out w2 H2.out).2.1 2 _ rfl
  have d3 : w2.cell? ⟨b, P * 4 + 3, none⟩ = some (.string x.bs) := (LD.out w2 H2.out).2.1 3 _ rfl
  go_upto_region 5 with (fail)
  obtain ⟨p2, Hp2⟩ : ∃ p, Hid (w2.heap.size = p) := ⟨_, rfl⟩
  obtain ⟨w3, Hw3⟩ : ∃ w3, Hid (w2.alloc (.cells #[.int .i64 x.no, .int .i64 x.fm, .int .i64 x.tt, .string x.bs] 38) = w3) := ⟨_, rfl⟩
  have B3 : Hid (Below w2.heap.size w2 w3) := by rw [← Hw3.out]; exact alloc1 w2 _
  have B13 : Below w1.heap.size w1 w3 := H2.out.trans (B3.out.mono H2.out.size)
  have K3 : Hid (w3.heap[p2]? = some (.cells #[.int .i64 x.no, .int .i64 x.fm, .int .i64 x.tt, .string x.bs] 38 (0, 0))) := by rw [← Hw3.out, ← Hp2.out]; exact heap_alloc_new w2 _
  have Q3 : Hid (w3.heap[q]? = some (.cells #[.int .i64 0, .int .i64 0, .int .i64 0, .string ⟨#[]⟩] 38 (0, 0))) := (B13.block q (Array.getElem?_eq_some_iff.1 K1.out).1).trans K1.out
  rw [Hw3.out, Hp2.out]
  clear d0 d1 d2 d3 c0
  obtain ⟨v4, Hv4⟩ : ∃ v, Hid (w3.drew = v) := ⟨_, rfl⟩
  obtain ⟨p5, Hp5⟩ : ∃ q, Hid (v4.heap.size = q) := ⟨_, rfl⟩
  obtain ⟨w5, Hw5⟩ : ∃ v, Hid (v4.alloc (.cells #[] 38) = v) := ⟨_, rfl⟩
  have b4 : Below w3.heap.size w3 v4 := by rw [← Hv4.out]; exact (Below.refl _ _).drew
  have b5 : Below w3.heap.size w3 w5 := by rw [← Hw5.out, ← Hv4.out]; exact (Below.refl _ _).drew.alloc (Nat.le_refl _) _
  have z4 : w3.heap.size = p5 := by rw [← Hp5.out, ← Hv4.out]; rfl
  have z5 : w5.heap.size = p5 + 1 := by rw [← Hw5.out, ← Hp5.out]; simp
  have L4 := LD.out v4 (B13.trans (b4.mono B13.size))
  have L5 := LD.out w5 (B13.trans (b5.mono B13.size))
  have D4 : Hid (v4.heap[d]? = some (.cells #[.slice (some ⟨b, 0, none⟩) n c, .int .i64 g] 30 (0, 0))) := L4.1
  have D5 : Hid (w5.heap[d]? = some (.cells #[.slice (some ⟨b, 0, none⟩) n c, .int .i64 g] 30 (0, 0))) := L5.1
  have dp5 : d < p5 := by have := (Array.getElem?_eq_some_iff.1 (LD.out w3 B13).1).1; omega
  have bp5 : b < p5 := by have := ((LD.out w3 B13).2.2.lt (q := b) rfl).2; omega
  have qp5 : q < p5 := by have := (Array.getElem?_eq_some_iff.1 Q3.out).1; omega
  have pp5 : p2 < p5 := by have := (Array.getElem?_eq_some_iff.1 K3.out).1; omega
  have lp5 : lo ≤ p5 := by have := N1.out.dl; omega
  have J5 : w5.ownsRow p5 38 EL.z (.slice (some ⟨p5, 0, none⟩) 0 0) 0 (EL.fl []) := ⟨rfl, .inr ⟨p5, 0, #[], rfl, Nat.le_refl _, by rw [← Hw5.out, ← Hp5.out]; exact heap_alloc_new v4 _, Nat.le_refl _, by unfold maxLen; omega, rfl, rfl⟩⟩
  obtain ⟨a6, c6, w6, r1, r2, r3⟩ := app_rw (s := 28) (t := 38) (E := EL) (a := some ⟨b, 0, none⟩) (n := P) (c := c) (l := X.take P) Tryd.underlying28 inf38 rfl (by decide) J5 (by rw [List.length_take, Nat.min_eq_left (by omega)]) (.inr ⟨b, 0, rfl, rng_take L5.2.2⟩) (fun h => by cases h) (by have := NB.out; omega) (by have := NB.out; unfold maxLen; omega) (by omega)
  rw [Nat.zero_add] at r1 r2
  have A1 : Hid ((Builtin.append_ #[28, 28] 28 #[.slice (some ⟨p5, 0, none⟩) 0 0, .slice (some ⟨b, 0, none⟩) P c]).run Tryd.prog w5 = .ok (.slice a6 P c6) w6) := r1
  have g6 : Below p5 w5 w6 := grown_below r3 (by omega) (fun q e => by cases e; exact Nat.le_refl _)
  have D6 : Hid (w6.heap[d]? = some (.cells #[.slice (some ⟨b, 0, none⟩) n c, .int .i64 g] 30 (0, 0))) := (g6.block d dp5).trans D5.out
  have R6 : Rw w6 lo 38 EL (some ⟨b, 0, none⟩) n c X := L5.2.2.keep1 (fun r e => g6.block r (by cases e; exact bp5))
  obtain ⟨sa, Hsa⟩ : ∃ sa : Option Addr, Hid (sa = if c = P + 1 then some ⟨b, 0, none⟩ else some ⟨b, (P + 1) * 4, none⟩) := ⟨_, rfl⟩
  obtain ⟨a7, c7, w7, s1, s2, s3⟩ := app_rw (s := 28) (t := 38) (E := EL) (a := sa) (n := n - (P + 1)) (c := c - (P + 1)) (l := X.drop (P + 1)) Tryd.underlying28 inf38 rfl (by decide) r2 (by rw [List.length_drop, ← LN.out]) (by
    rw [Hsa.out]
    split
    · exact .inl (by omega)
    · exact .inr ⟨b, (P + 1) * 4, rfl, rng_drop R6⟩) (fun h => by rw [Hsa.out] at h; split at h <;> cases h) (by have := NB.out; omega) (by have := NB.out; unfold maxLen; omega) (by have := r3.size; omega)
  obtain ⟨m7, Hm7⟩ : ∃ q, Hid (P + (n - (P + 1)) = q) := ⟨_, rfl⟩
  rw [Hm7.out] at s1 s2
  have A2 : Hid ((Builtin.append_ #[28, 28] 28 #[.slice a6 P c6, .slice sa (n - (P + 1)) (c - (P + 1))]).run Tryd.prog w6 = .ok (.slice a7 m7 c7) w7) := s1
  have g7 : Below p5 w6 w7 := grown_below s3 (by have := r3.size; omega) (fun q e => (r2.lt q e).1)
  have g57 : Below p5 w5 w7 := g6.trans g7
  have D7 : Hid (w7.heap[d]? = some (.cells #[.slice (some ⟨b, 0, none⟩) n c, .int .i64 g] 30 (0, 0))) := (g7.block d dp5).trans D6.out
  have GG : Below w3.heap.size w3 w7 := by
    have h1 := b5
    rw [z4] at h1 ⊢
    exact h1.trans g57
  have K7 : Hid (w7.heap[p2]? = some (.cells #[.int .i64 x.no, .int .i64 x.fm, .int .i64 x.tt, .string x.bs] 38 (0, 0))) := (GG.block p2 (by omega)).trans K3.out
  have Q7 : Hid (w7.heap[q]? = some (.cells #[.int .i64 0, .int .i64 0, .int .i64 0, .string ⟨#[]⟩] 38 (0, 0))) := (GG.block q (by omega)).trans Q3.out
  have NW : Hid (∀ r, blkOf a7 = some r → p5 ≤ r) := fun r e => (s2.lt r (by rw [ownBlock_slice]; exact e)).1
  have eX : X.take P ++ X.drop (P + 1) = X.eraseIdx P := by rw [List.eraseIdx_eq_take_drop_succ]
  have R7 : Hid (Rw w7 lo 38 EL a7 m7 c7 (X.eraseIdx P)) := by
    refine ⟨?_, by decide⟩
    have h := rown_mono s2 lp5
    rw [List.nil_append, eX] at h
    exact h
  have G17 : Hid (Below w.heap.size w w7) := (B1.out.trans (B13.mono B1.out.size)).trans (GG.mono (Nat.le_trans B1.out.size B13.size))
  have i5 : P ≤ n := by omega
  have i6 : P ≤ c := by omega
  have i7 : P + 1 ≤ n := by omega
  have i8 : P + 1 ≤ c := by omega
  have i9 : (P : Int) ≤ (c : Int) := by omega
  have i10 : (P : Int) + 1 ≤ (n : Int) := by omega
  have i11 : (0 : Int) ≤ (P : Int) + 1 := by omega
  have i12 : (0 : Int) ≤ (P : Int) := by omega
  have nb := NB.out
  have wq : IntKind.i64.wrap ((P : Int) + 1) = (P : Int) + 1 := by rw [IntKind.wrap_i64]; omega
  clear r1 r2 r3 s1 s2 s3 g6 g7 g57 J5 L4 L5 R6 GG eX b4 b5 B13 nb
  have fin : ∀ w8, Hid (w7.setCell ⟨d, 0, none⟩ (.slice a7 m7 c7) = w8) → Hid (w8.heap[p2]? = some (.cells #[.int .i64 x.no, .int .i64 x.fm, .int .i64 x.tt, .string x.bs] 38 (0, 0)) ∧ w8.heap[q]? = some (.cells #[.int .i64 0, .int .i64 0, .int .i64 0, .string ⟨#[]⟩] 38 (0, 0)) ∧ Rt (w8.setRow q #[.int .i64 x.no, .int .i64 x.fm, .int .i64 x.tt, .string x.bs]) lo d a7 (X.eraseIdx P) g ∧ NF w (w8.setRow q #[.int .i64 x.no, .int .i64 x.fm, .int .i64 x.tt, .string x.bs]) d (some ⟨b, 0, none⟩) a7) := fun w8 H8 => by
    have dq : d ≠ q := fun e => QD.out.1 e.symm
    have pd : p2 ≠ d := by
      intro e
      have := K7.out
      rw [e, D7.out] at this
      cases this
    have h1 : w8.heap[d]? = some (.cells #[.slice a7 m7 c7, .int .i64 g] 30 (0, 0)) := by rw [← H8.out]; exact set_blk D7.out 0 _
    have h2 : ∀ r, r ≠ d → w8.heap[r]? = w7.heap[r]? := fun r hr => by rw [← H8.out]; exact Below.heap_setCell _ _ _ _ hr
    have ss : w8.heap.size = w7.heap.size := by rw [← H8.out]; simp [World.setCell]
    refine ⟨(h2 p2 pd).trans K7.out, (h2 q (Ne.symm dq)).trans Q7.out, ⟨⟨m7, c7, (setRow_other _ _ _ _ dq).trans h1, R7.out.keep1 (fun r e => (setRow_other _ _ _ _ (by have := NW.out r e; omega)).trans (h2 r (by have := NW.out r e; omega)))⟩, hN.out.dl, ris_del P hN.out.rs, Nat.le_trans (List.length_eraseIdx_le ..) hN.out.ln, hN.out.gz⟩, ⟨?_, fun r e => .inr (by have := NW.out r e; have := Hq.out; omega)⟩⟩
    have e8 : Ch w7 w8 (fun r => r = d) := by rw [← H8.out]; exact Ch.set w7 d 0 _
    have e9 : Ch w8 (w8.setRow q #[.int .i64 x.no, .int .i64 x.fm, .int .i64 x.tt, .string x.bs]) (fun r => r = q) := ⟨rfl, rfl, rfl, by rw [setRow_size]; exact Nat.le_refl _, fun k hk hn => setRow_other _ _ _ _ hn⟩
    exact (((Ch.below (S := fun r => r = d ∨ blkOf (some (⟨b, 0, none⟩ : Addr)) = some r) G17.out).then e8 (fun r _ h => h) (fun r _ h => .inl h))).then e9 (fun r _ h => h) (fun r hr h => by
      have h3 : r = q := h
      have := Hq.out
      omega)
  by_cases hc : c = P + 1
  · have ic : (c = P + 1) = True := eq_true hc
    have SA : Hid (sa = some ⟨b, 0, none⟩) := by show _ = _; rw [Hsa.out, if_pos hc]
    clear hc
    rw [SA.out] at A2
    refine wp_region_seqL (C := fun W => W.heap[d]? = some (.cells #[.slice (some ⟨b, 0, none⟩) n c, .int .i64 g] 30 (0, 0))) [(0, false), (2, false), (3, false), (4, false), (5, false), (6, false), (7, false), (9, false), (10, false), (11, false), (12, false), (13, false), (14, false), (15, false), (1, true), (8, true), (16, true), (17, false), (18, false), (19, true)] 19 (by kernel_rfl) (by kernel_rfl) (by rw [Hv4.out]; exact D4.out) ?_
    rw [Hv4.out]
    refine seqL_take (o := { dst := some 21, op := Go.Op.move (Go.Operand.tmp 0), type := 27, pos := "ref.go:53", after := #[], guard := none }) (v := .pointer (some ⟨d, 0, none⟩)) (by kernel_rfl) (fun _ _ _ h => h) (Or.inl ⟨by kernel_rfl, fun W hW => by go_simp⟩) ?_
    simp only [List.getElem_toArray, List.getElem_cons_zero, List.getElem_cons_succ, Act.put, List.setIfInBounds_toArray, List.set_cons_zero, List.set_cons_succ]
    refine seqL_take (o := { dst := some 23, op := Go.Op.move (Go.Operand.tmp 0), type := 27, pos := "ref.go:53", after := #[], guard := none }) (v := .pointer (some ⟨d, 0, none⟩)) (by kernel_rfl) (fun _ _ _ h => h) (Or.inl ⟨by kernel_rfl, fun W hW => by go_simp⟩) ?_
    simp only [List.getElem_toArray, List.getElem_cons_zero, List.getElem_cons_succ, Act.put, List.setIfInBounds_toArray, List.set_cons_zero, List.set_cons_succ]
    refine seqL_take (o := { dst := some 24, op := Go.Op.nilCheck (Go.Operand.tmp 23), type := 0, pos := "ref.go:53", after := #[{ on := 2, ground := Go.Ground.data }], guard := none }) (v := .pointer (some ⟨d, 0, none⟩)) (by kernel_rfl) (fun _ _ _ h => h) (Or.inl ⟨by kernel_rfl, fun W hW => by go_simp⟩) ?_
    simp only [List.getElem_toArray, List.getElem_cons_zero, List.getElem_cons_succ, Act.put, List.setIfInBounds_toArray, List.set_cons_zero, List.set_cons_succ]
    refine seqL_take (o := { dst := some 25, op := Go.Op.fieldAddr 30 (Go.Operand.tmp 24) 0, type := 0, pos := "ref.go:53", after := #[{ on := 3, ground := Go.Ground.data }], guard := none }) (v := .pointer (some ⟨d, 0, none⟩)) (by kernel_rfl) (fun _ _ _ h => h) (Or.inl ⟨by kernel_rfl, fun W hW => by go_simp⟩) ?_
    simp only [List.getElem_toArray, List.getElem_cons_zero, List.getElem_cons_succ, Act.put, List.setIfInBounds_toArray, List.set_cons_zero, List.set_cons_succ]
    refine seqL_take (o := { dst := some 26, op := Go.Op.load 28 (Go.Operand.tmp 25), type := 28, pos := "ref.go:53", after := #[{ on := 4, ground := Go.Ground.data }], guard := none }) (v := .slice (some ⟨b, 0, none⟩) n c) (by kernel_rfl) (fun _ _ _ h => h) (Or.inl ⟨by kernel_rfl, fun W hW => by obtain ⟨q0, q1⟩ := cel2 hW; go_simp⟩) ?_
    simp only [List.getElem_toArray, List.getElem_cons_zero, List.getElem_cons_succ, Act.put, List.setIfInBounds_toArray, List.set_cons_zero, List.set_cons_succ]
    refine seqL_take (o := { dst := some 27, op := Go.Op.move (Go.Operand.tmp 6), type := 3, pos := "ref.go:53", after := #[], guard := none }) (v := .int .i64 (P : Int)) (by kernel_rfl) (fun _ _ _ h => h) (Or.inl ⟨by kernel_rfl, fun W hW => by go_simp⟩) ?_
    simp only [List.getElem_toArray, List.getElem_cons_zero, List.getElem_cons_succ, Act.put, List.setIfInBounds_toArray, List.set_cons_zero, List.set_cons_succ]
    refine seqL_take (o := { dst := some 28, op := Go.Op.slice 28 (Go.Operand.tmp 26) none (some (Go.Operand.tmp 27)) none, type := 28, pos := "ref.go:53", after := #[{ on := 5, ground := Go.Ground.data }, { on := 6, ground := Go.Ground.data }], guard := none }) (v := .slice (some ⟨b, 0, none⟩) P c) (by kernel_rfl) (fun _ _ _ h => h) (Or.inl ⟨by kernel_rfl, fun W hW => by go_simp⟩) ?_
    simp only [List.getElem_toArray, List.getElem_cons_zero, List.getElem_cons_succ, Act.put, List.setIfInBounds_toArray, List.set_cons_zero, List.set_cons_succ]
    refine seqL_take (o := { dst := some 30, op := Go.Op.move (Go.Operand.tmp 0), type := 27, pos := "ref.go:53", after := #[], guard := none }) (v := .pointer (some ⟨d, 0, none⟩)) (by kernel_rfl) (fun _ _ _ h => h) (Or.inl ⟨by kernel_rfl, fun W hW => by go_simp⟩) ?_
    simp only [List.getElem_toArray, List.getElem_cons_zero, List.getElem_cons_succ, Act.put, List.setIfInBounds_toArray, List.set_cons_zero, List.set_cons_succ]
    refine seqL_take (o := { dst := some 31, op := Go.Op.nilCheck (Go.Operand.tmp 30), type := 0, pos := "ref.go:53", after := #[{ on := 9, ground := Go.Ground.data }], guard := none }) (v := .pointer (some ⟨d, 0, none⟩)) (by kernel_rfl) (fun _ _ _ h => h) (Or.inl ⟨by kernel_rfl, fun W hW => by go_simp⟩) ?_
    simp only [List.getElem_toArray, List.getElem_cons_zero, List.getElem_cons_succ, Act.put, List.setIfInBounds_toArray, List.set_cons_zero, List.set_cons_succ]
    refine seqL_take (o := { dst := some 32, op := Go.Op.fieldAddr 30 (Go.Operand.tmp 31) 0, type := 0, pos := "ref.go:53", after := #[{ on := 10, ground := Go.Ground.data }], guard := none }) (v := .pointer (some ⟨d, 0, none⟩)) (by kernel_rfl) (fun _ _ _ h => h) (Or.inl ⟨by kernel_rfl, fun W hW => by go_simp⟩) ?_
    simp only [List.getElem_toArray, List.getElem_cons_zero, List.getElem_cons_succ, Act.put, List.setIfInBounds_toArray, List.set_cons_zero, List.set_cons_succ]
    refine seqL_take (o := { dst := some 33, op := Go.Op.load 28 (Go.Operand.tmp 32), type := 28, pos := "ref.go:53", after := #[{ on := 11, ground := Go.Ground.data }], guard := none }) (v := .slice (some ⟨b, 0, none⟩) n c) (by kernel_rfl) (fun _ _ _ h => h) (Or.inl ⟨by kernel_rfl, fun W hW => by obtain ⟨q0, q1⟩ := cel2 hW; go_simp⟩) ?_
    simp only [List.getElem_toArray, List.getElem_cons_zero, List.getElem_cons_succ, Act.put, List.setIfInBounds_toArray, List.set_cons_zero, List.set_cons_succ]
    refine seqL_take (o := { dst := some 34, op := Go.Op.move (Go.Operand.tmp 6), type := 3, pos := "ref.go:53", after := #[], guard := none }) (v := .int .i64 (P : Int)) (by kernel_rfl) (fun _ _ _ h => h) (Or.inl ⟨by kernel_rfl, fun W hW => by go_simp⟩) ?_
    simp only [List.getElem_toArray, List.getElem_cons_zero, List.getElem_cons_succ, Act.put, List.setIfInBounds_toArray, List.set_cons_zero, List.set_cons_succ]
    refine seqL_take (o := { dst := some 35, op := Go.Op.binOp Go.BinOp.add 3 (Go.Operand.tmp 34) (Go.Operand.const (Go.Value.int Go.IntKind.i64 1)) 3, type := 3, pos := "ref.go:53", after := #[{ on := 13, ground := Go.Ground.data }], guard := none }) (v := .int .i64 ((P : Int) + 1)) (by kernel_rfl) (fun _ _ _ h => h) (Or.inl ⟨by kernel_rfl, fun W hW => by go_simp⟩) ?_
    simp only [List.getElem_toArray, List.getElem_cons_zero, List.getElem_cons_succ, Act.put, List.setIfInBounds_toArray, List.set_cons_zero, List.set_cons_succ]
    refine seqL_take (o := { dst := some 36, op := Go.Op.slice 28 (Go.Operand.tmp 33) (some (Go.Operand.tmp 35)) none none, type := 28, pos := "ref.go:53", after := #[{ on := 12, ground := Go.Ground.data }, { on := 14, ground := Go.Ground.data }], guard := none }) (v := .slice (some ⟨b, 0, none⟩) (n - (P + 1)) (c - (P + 1))) (by kernel_rfl) (fun _ _ _ h => h) (Or.inl ⟨by kernel_rfl, fun W hW => by go_simp⟩) ?_
    simp only [List.getElem_toArray, List.getElem_cons_zero, List.getElem_cons_succ, Act.put, List.setIfInBounds_toArray, List.set_cons_zero, List.set_cons_succ]
    refine seqL_call (o := { dst := some 22, op := Go.Op.buildSlice 28 0 #[], type := 28, pos := "ref.go:53", after := #[], guard := none }) (by kernel_rfl) (fun KK hK => ?_)
    rw [if_pos (by kernel_rfl)]
    go_simp
    go_wp2
    rw [Hp5.out, Hw5.out]
    refine hK.out _ _ (.inr (D5.out)) ?_
    clear hK KK
    try simp only [List.getElem_toArray, List.getElem_cons_zero, List.getElem_cons_succ, Act.put, List.setIfInBounds_toArray, List.set_cons_zero, List.set_cons_succ]
    refine seqL_call (o := { dst := some 29, op := Go.Op.call { callee := Go.Callee.builtin Go.Builtin.append, args := #[Go.Operand.tmp 22, Go.Operand.tmp 28], argTypes := #[28, 28] }, type := 28, pos := "ref.go:53", after := #[{ on := 1, ground := Go.Ground.data }, { on := 7, ground := Go.Ground.data }], guard := none }) (by kernel_rfl) (fun KK hK => ?_)
    rw [if_pos (by kernel_rfl)]
    refine wp_app (t := 28) (.tmp 22) (.tmp 28) (by rfl) (by rfl) (by rfl) (by rfl) A1 ?_
    refine hK.out _ _ (.inr (D6.out)) ?_
    clear hK KK
    try simp only [List.getElem_toArray, List.getElem_cons_zero, List.getElem_cons_succ, Act.put, List.setIfInBounds_toArray, List.set_cons_zero, List.set_cons_succ]
    refine seqL_call (o := { dst := some 37, op := Go.Op.call { callee := Go.Callee.builtin Go.Builtin.append, args := #[Go.Operand.tmp 29, Go.Operand.tmp 36], argTypes := #[28, 28] }, type := 28, pos := "ref.go:53", after := #[{ on := 8, ground := Go.Ground.data }, { on := 15, ground := Go.Ground.data }, { on := 8, ground := Go.Ground.chain }], guard := none }) (by kernel_rfl) (fun KK hK => ?_)
    rw [if_pos (by kernel_rfl)]
    refine wp_app (t := 28) (.tmp 29) (.tmp 36) (by rfl) (by rfl) (by rfl) (by rfl) A2 ?_
    refine hK.out _ _ (.inr (D7.out)) ?_
    clear hK KK
    try simp only [List.getElem_toArray, List.getElem_cons_zero, List.getElem_cons_succ, Act.put, List.setIfInBounds_toArray, List.set_cons_zero, List.set_cons_succ]
    refine seqL_take (o := { dst := some 38, op := Go.Op.nilCheck (Go.Operand.tmp 21), type := 0, pos := "ref.go:53", after := #[{ on := 0, ground := Go.Ground.data }, { on := 0, ground := Go.Ground.phase }, { on := 1, ground := Go.Ground.phase }, { on := 2, ground := Go.Ground.phase }, { on := 3, ground := Go.Ground.phase }, { on := 4, ground := Go.Ground.phase }, { on := 5, ground := Go.Ground.phase }, { on := 6, ground := Go.Ground.phase }, { on := 7, ground := Go.Ground.phase }, { on := 8, ground := Go.Ground.phase }, { on := 9, ground := Go.Ground.phase }, { on := 10, ground := Go.Ground.phase }, { on := 11, ground := Go.Ground.phase }, { on := 12, ground := Go.Ground.phase }, { on := 13, ground := Go.Ground.phase }, { on := 14, ground := Go.Ground.phase }, { on := 15, ground := Go.Ground.phase }, { on := 16, ground := Go.Ground.phase }], guard := none }) (v := .pointer (some ⟨d, 0, none⟩)) (by kernel_rfl) (fun _ _ _ h => h) (Or.inl ⟨by kernel_rfl, fun W hW => by go_simp⟩) ?_
    simp only [List.getElem_toArray, List.getElem_cons_zero, List.getElem_cons_succ, Act.put, List.setIfInBounds_toArray, List.set_cons_zero, List.set_cons_succ]
    refine seqL_take (o := { dst := some 39, op := Go.Op.fieldAddr 30 (Go.Operand.tmp 38) 0, type := 0, pos := "ref.go:53", after := #[{ on := 17, ground := Go.Ground.data }, { on := 0, ground := Go.Ground.phase }, { on := 1, ground := Go.Ground.phase }, { on := 2, ground := Go.Ground.phase }, { on := 3, ground := Go.Ground.phase }, { on := 4, ground := Go.Ground.phase }, { on := 5, ground := Go.Ground.phase }, { on := 6, ground := Go.Ground.phase }, { on := 7, ground := Go.Ground.phase }, { on := 8, ground := Go.Ground.phase }, { on := 9, ground := Go.Ground.phase }, { on := 10, ground := Go.Ground.phase }, { on := 11, ground := Go.Ground.phase }, { on := 12, ground := Go.Ground.phase }, { on := 13, ground := Go.Ground.phase }, { on := 14, ground := Go.Ground.phase }, { on := 15, ground := Go.Ground.phase }, { on := 16, ground := Go.Ground.phase }], guard := none }) (v := .pointer (some ⟨d, 0, none⟩)) (by kernel_rfl) (fun _ _ _ h => h) (Or.inl ⟨by kernel_rfl, fun W hW => by go_simp⟩) ?_
    simp only [List.getElem_toArray, List.getElem_cons_zero, List.getElem_cons_succ, Act.put, List.setIfInBounds_toArray, List.set_cons_zero, List.set_cons_succ]
    refine seqL_call (o := { dst := none, op := Go.Op.store 28 (Go.Operand.tmp 39) (Go.Operand.tmp 37), type := 0, pos := "ref.go:53", after := #[{ on := 18, ground := Go.Ground.data }, { on := 16, ground := Go.Ground.data }, { on := 16, ground := Go.Ground.chain }, { on := 0, ground := Go.Ground.phase }, { on := 1, ground := Go.Ground.phase }, { on := 2, ground := Go.Ground.phase }, { on := 3, ground := Go.Ground.phase }, { on := 4, ground := Go.Ground.phase }, { on := 5, ground := Go.Ground.phase }, { on := 6, ground := Go.Ground.phase }, { on := 7, ground := Go.Ground.phase }, { on := 8, ground := Go.Ground.phase }, { on := 9, ground := Go.Ground.phase }, { on := 10, ground := Go.Ground.phase }, { on := 11, ground := Go.Ground.phase }, { on := 12, ground := Go.Ground.phase }, { on := 13, ground := Go.Ground.phase }, { on := 14, ground := Go.Ground.phase }, { on := 15, ground := Go.Ground.phase }, { on := 16, ground := Go.Ground.phase }], guard := none }) (by kernel_rfl) (fun KK hK => ?_)
    rw [if_pos (by kernel_rfl)]
    have s0 : w7.cell? ⟨d, 0, none⟩ = some (.slice (some ⟨b, 0, none⟩) n c) := (cel2 D7.out).1
    have s1 : w7.frozen? ⟨d, 0, none⟩ = false := by simp [World.frozen?, D7.out]
    go_simp
    refine hK.out _ _ (by first | exact .inl rfl | exact .inl trivial | simp) ?_
    clear hK KK
    try simp only [List.getElem_toArray, List.getElem_cons_zero, List.getElem_cons_succ, Act.put, List.setIfInBounds_toArray, List.set_cons_zero, List.set_cons_succ]
    show (Exit.then _ _) .normal _ _
    obtain ⟨w8, H8⟩ : ∃ v, Hid (w7.setCell ⟨d, 0, none⟩ (.slice a7 m7 c7) = v) := ⟨_, rfl⟩
    rw [H8.out]
    have F8 := fin w8 H8
    have K8 : Hid (w8.heap[p2]? = some (.cells #[.int .i64 x.no, .int .i64 x.fm, .int .i64 x.tt, .string x.bs] 38 (0, 0))) := F8.out.1
    have Q8 : Hid (w8.heap[q]? = some (.cells #[.int .i64 0, .int .i64 0, .int .i64 0, .string ⟨#[]⟩] 38 (0, 0))) := F8.out.2.1
    obtain ⟨y0, y1, y2, y3⟩ := cel4 K8.out
    go_wp2_with (refine wpList_store_row (by rfl) 38 (.tmp 4) (.tmp 40) (by rfl) q #[.int .i64 x.no, .int .i64 x.fm, .int .i64 x.tt, .string x.bs] (by rfl) (by rfl) 38 _ Q8.out inf38s rfl (oc4s _ _ _ _) ?_)
    refine bodyPost_ret (res21 Tryd.results21 _ _ q #[.int .i64 x.no, .int .i64 x.fm, .int .i64 x.tt, .string x.bs] (.int .i64 0) (by rfl) (by rfl) (setRow_heap _ _ _ _ _ _ Q8.out) rfl) rfl ⟨a7, rfl, F8.out.2.2⟩
  · have ic : ¬ (c = P + 1) := hc
    have SA : Hid (sa = some ⟨b, (P + 1) * 4, none⟩) := by show _ = _; rw [Hsa.out, if_neg hc]
    clear hc
    rw [SA.out] at A2
    refine wp_region_seqL (C := fun W => W.heap[d]? = some (.cells #[.slice (some ⟨b, 0, none⟩) n c, .int .i64 g] 30 (0, 0))) [(0, false), (2, false), (3, false), (4, false), (5, false), (6, false), (7, false), (9, false), (10, false), (11, false), (12, false), (13, false), (14, false), (15, false), (1, true), (8, true), (16, true), (17, false), (18, false), (19, true)] 19 (by kernel_rfl) (by kernel_rfl) (by rw [Hv4.out]; exact D4.out) ?_
    rw [Hv4.out]
    refine seqL_take (o := { dst := some 21, op := Go.Op.move (Go.Operand.tmp 0), type := 27, pos := "ref.go:53", after := #[], guard := none }) (v := .pointer (some ⟨d, 0, none⟩)) (by kernel_rfl) (fun _ _ _ h => h) (Or.inl ⟨by kernel_rfl, fun W hW => by go_simp⟩) ?_
    simp only [List.getElem_toArray, List.getElem_cons_zero, List.getElem_cons_succ, Act.put, List.setIfInBounds_toArray, List.set_cons_zero, List.set_cons_succ]
    refine seqL_take (o := { dst := some 23, op := Go.Op.move (Go.Operand.tmp 0), type := 27, pos := "ref.go:53", after := #[], guard := none }) (v := .pointer (some ⟨d, 0, none⟩)) (by kernel_rfl) (fun _ _ _ h => h) (Or.inl ⟨by kernel_rfl, fun W hW => by go_simp⟩) ?_
    simp only [List.getElem_toArray, List.getElem_cons_zero, List.getElem_cons_succ, Act.put, List.setIfInBounds_toArray, List.set_cons_zero, List.set_cons_succ]
    refine seqL_take (o := { dst := some 24, op := Go.Op.nilCheck (Go.Operand.tmp 23), type := 0, pos := "ref.go:53", after := #[{ on := 2, ground := Go.Ground.data }], guard := none }) (v := .pointer (some ⟨d, 0, none⟩)) (by kernel_rfl) (fun _ _ _ h => h) (Or.inl ⟨by kernel_rfl, fun W hW => by go_simp⟩) ?_
    simp only [List.getElem_toArray, List.getElem_cons_zero, List.getElem_cons_succ, Act.put, List.setIfInBounds_toArray, List.set_cons_zero, List.set_cons_succ]
    refine seqL_take (o := { dst := some 25, op := Go.Op.fieldAddr 30 (Go.Operand.tmp 24) 0, type := 0, pos := "ref.go:53", after := #[{ on := 3, ground := Go.Ground.data }], guard := none }) (v := .pointer (some ⟨d, 0, none⟩)) (by kernel_rfl) (fun _ _ _ h => h) (Or.inl ⟨by kernel_rfl, fun W hW => by go_simp⟩) ?_
    simp only [List.getElem_toArray, List.getElem_cons_zero, List.getElem_cons_succ, Act.put, List.setIfInBounds_toArray, List.set_cons_zero, List.set_cons_succ]
    refine seqL_take (o := { dst := some 26, op := Go.Op.load 28 (Go.Operand.tmp 25), type := 28, pos := "ref.go:53", after := #[{ on := 4, ground := Go.Ground.data }], guard := none }) (v := .slice (some ⟨b, 0, none⟩) n c) (by kernel_rfl) (fun _ _ _ h => h) (Or.inl ⟨by kernel_rfl, fun W hW => by obtain ⟨q0, q1⟩ := cel2 hW; go_simp⟩) ?_
    simp only [List.getElem_toArray, List.getElem_cons_zero, List.getElem_cons_succ, Act.put, List.setIfInBounds_toArray, List.set_cons_zero, List.set_cons_succ]
    refine seqL_take (o := { dst := some 27, op := Go.Op.move (Go.Operand.tmp 6), type := 3, pos := "ref.go:53", after := #[], guard := none }) (v := .int .i64 (P : Int)) (by kernel_rfl) (fun _ _ _ h => h) (Or.inl ⟨by kernel_rfl, fun W hW => by go_simp⟩) ?_
    simp only [List.getElem_toArray, List.getElem_cons_zero, List.getElem_cons_succ, Act.put, List.setIfInBounds_toArray, List.set_cons_zero, List.set_cons_succ]
    refine seqL_take (o := { dst := some 28, op := Go.Op.slice 28 (Go.Operand.tmp 26) none (some (Go.Operand.tmp 27)) none, type := 28, pos := "ref.go:53", after := #[{ on := 5, ground := Go.Ground.data }, { on := 6, ground := Go.Ground.data }], guard := none }) (v := .slice (some ⟨b, 0, none⟩) P c) (by kernel_rfl) (fun _ _ _ h => h) (Or.inl ⟨by kernel_rfl, fun W hW => by go_simp⟩) ?_
    simp only [List.getElem_toArray, List.getElem_cons_zero, List.getElem_cons_succ, Act.put, List.setIfInBounds_toArray, List.set_cons_zero, List.set_cons_succ]
    refine seqL_take (o := { dst := some 30, op := Go.Op.move (Go.Operand.tmp 0), type := 27, pos := "ref.go:53", after := #[], guard := none }) (v := .pointer (some ⟨d, 0, none⟩)) (by kernel_rfl) (fun _ _ _ h => h) (Or.inl ⟨by kernel_rfl, fun W hW => by go_simp⟩) ?_
    simp only [List.getElem_toArray, List.getElem_cons_zero, List.getElem_cons_succ, Act.put, List.setIfInBounds_toArray, List.set_cons_zero, List.set_cons_succ]
    refine seqL_take (o := { dst := some 31, op := Go.Op.nilCheck (Go.Operand.tmp 30), type := 0, pos := "ref.go:53", after := #[{ on := 9, ground := Go.Ground.data }], guard := none }) (v := .pointer (some ⟨d, 0, none⟩)) (by kernel_rfl) (fun _ _ _ h => h) (Or.inl ⟨by kernel_rfl, fun W hW => by go_simp⟩) ?_
    simp only [List.getElem_toArray, List.getElem_cons_zero, List.getElem_cons_succ, Act.put, List.setIfInBounds_toArray, List.set_cons_zero, List.set_cons_succ]
    refine seqL_take (o := { dst := some 32, op := Go.Op.fieldAddr 30 (Go.Operand.tmp 31) 0, type := 0, pos := "ref.go:53", after := #[{ on := 10, ground := Go.Ground.data }], guard := none }) (v := .pointer (some ⟨d, 0, none⟩)) (by kernel_rfl) (fun _ _ _ h => h) (Or.inl ⟨by kernel_rfl, fun W hW => by go_simp⟩) ?_
    simp only [List.getElem_toArray, List.getElem_cons_zero, List.getElem_cons_succ, Act.put, List.setIfInBounds_toArray, List.set_cons_zero, List.set_cons_succ]
    refine seqL_take (o := { dst := some 33, op := Go.Op.load 28 (Go.Operand.tmp 32), type := 28, pos := "ref.go:53", after := #[{ on := 11, ground := Go.Ground.data }], guard := none }) (v := .slice (some ⟨b, 0, none⟩) n c) (by kernel_rfl) (fun _ _ _ h => h) (Or.inl ⟨by kernel_rfl, fun W hW => by obtain ⟨q0, q1⟩ := cel2 hW; go_simp⟩) ?_
    simp only [List.getElem_toArray, List.getElem_cons_zero, List.getElem_cons_succ, Act.put, List.setIfInBounds_toArray, List.set_cons_zero, List.set_cons_succ]
    refine seqL_take (o := { dst := some 34, op := Go.Op.move (Go.Operand.tmp 6), type := 3, pos := "ref.go:53", after := #[], guard := none }) (v := .int .i64 (P : Int)) (by kernel_rfl) (fun _ _ _ h => h) (Or.inl ⟨by kernel_rfl, fun W hW => by go_simp⟩) ?_
    simp only [List.getElem_toArray, List.getElem_cons_zero, List.getElem_cons_succ, Act.put, List.setIfInBounds_toArray, List.set_cons_zero, List.set_cons_succ]
    refine seqL_take (o := { dst := some 35, op := Go.Op.binOp Go.BinOp.add 3 (Go.Operand.tmp 34) (Go.Operand.const (Go.Value.int Go.IntKind.i64 1)) 3, type := 3, pos := "ref.go:53", after := #[{ on := 13, ground := Go.Ground.data }], guard := none }) (v := .int .i64 ((P : Int) + 1)) (by kernel_rfl) (fun _ _ _ h => h) (Or.inl ⟨by kernel_rfl, fun W hW => by go_simp⟩) ?_
    simp only [List.getElem_toArray, List.getElem_cons_zero, List.getElem_cons_succ, Act.put, List.setIfInBounds_toArray, List.set_cons_zero, List.set_cons_succ]
    refine seqL_take (o := { dst := some 36, op := Go.Op.slice 28 (Go.Operand.tmp 33) (some (Go.Operand.tmp 35)) none none, type := 28, pos := "ref.go:53", after := #[{ on := 12, ground := Go.Ground.data }, { on := 14, ground := Go.Ground.data }], guard := none }) (v := .slice (some ⟨b, (P + 1) * 4, none⟩) (n - (P + 1)) (c - (P + 1))) (by kernel_rfl) (fun _ _ _ h => h) (Or.inl ⟨by kernel_rfl, fun W hW => by go_simp⟩) ?_
    simp only [List.getElem_toArray, List.getElem_cons_zero, List.getElem_cons_succ, Act.put, List.setIfInBounds_toArray, List.set_cons_zero, List.set_cons_succ]
    refine seqL_call (o := { dst := some 22, op := Go.Op.buildSlice 28 0 #[], type := 28, pos := "ref.go:53", after := #[], guard := none }) (by kernel_rfl) (fun KK hK => ?_)
    rw [if_pos (by kernel_rfl)]
    go_simp
    go_wp2
    rw [Hp5.out, Hw5.out]
    refine hK.out _ _ (.inr (D5.out)) ?_
    clear hK KK
    try simp only [List.getElem_toArray, List.getElem_cons_zero, List.getElem_cons_succ, Act.put, List.setIfInBounds_toArray, List.set_cons_zero, List.set_cons_succ]
    refine seqL_call (o := { dst := some 29, op := Go.Op.call { callee := Go.Callee.builtin Go.Builtin.append, args := #[Go.Operand.tmp 22, Go.Operand.tmp 28], argTypes := #[28, 28] }, type := 28, pos := "ref.go:53", after := #[{ on := 1, ground := Go.Ground.data }, { on := 7, ground := Go.Ground.data }], guard := none }) (by kernel_rfl) (fun KK hK => ?_)
    rw [if_pos (by kernel_rfl)]
    refine wp_app (t := 28) (.tmp 22) (.tmp 28) (by rfl) (by rfl) (by rfl) (by rfl) A1 ?_
    refine hK.out _ _ (.inr (D6.out)) ?_
    clear hK KK
    try simp only [List.getElem_toArray, List.getElem_cons_zero, List.getElem_cons_succ, Act.put, List.setIfInBounds_toArray, List.set_cons_zero, List.set_cons_succ]
    refine seqL_call (o := { dst := some 37, op := Go.Op.call { callee := Go.Callee.builtin Go.Builtin.append, args := #[Go.Operand.tmp 29, Go.Operand.tmp 36], argTypes := #[28, 28] }, type := 28, pos := "ref.go:53", after := #[{ on := 8, ground := Go.Ground.data }, { on := 15, ground := Go.Ground.data }, { on := 8, ground := Go.Ground.chain }], guard := none }) (by kernel_rfl) (fun KK hK => ?_)
    rw [if_pos (by kernel_rfl)]
    refine wp_app (t := 28) (.tmp 29) (.tmp 36) (by rfl) (by rfl) (by rfl) (by rfl) A2 ?_
    refine hK.out _ _ (.inr (D7.out)) ?_
    clear hK KK
    try simp only [List.getElem_toArray, List.getElem_cons_zero, List.getElem_cons_succ, Act.put, List.setIfInBounds_toArray, List.set_cons_zero, List.set_cons_succ]
    refine seqL_take (o := { dst := some 38, op := Go.Op.nilCheck (Go.Operand.tmp 21), type := 0, pos := "ref.go:53", after := #[{ on := 0, ground := Go.Ground.data }, { on := 0, ground := Go.Ground.phase }, { on := 1, ground := Go.Ground.phase }, { on := 2, ground := Go.Ground.phase }, { on := 3, ground := Go.Ground.phase }, { on := 4, ground := Go.Ground.phase }, { on := 5, ground := Go.Ground.phase }, { on := 6, ground := Go.Ground.phase }, { on := 7, ground := Go.Ground.phase }, { on := 8, ground := Go.Ground.phase }, { on := 9, ground := Go.Ground.phase }, { on := 10, ground := Go.Ground.phase }, { on := 11, ground := Go.Ground.phase }, { on := 12, ground := Go.Ground.phase }, { on := 13, ground := Go.Ground.phase }, { on := 14, ground := Go.Ground.phase }, { on := 15, ground := Go.Ground.phase }, { on := 16, ground := Go.Ground.phase }], guard := none }) (v := .pointer (some ⟨d, 0, none⟩)) (by kernel_rfl) (fun _ _ _ h => h) (Or.inl ⟨by kernel_rfl, fun W hW => by go_simp⟩) ?_
    simp only [List.getElem_toArray, List.getElem_cons_zero, List.getElem_cons_succ, Act.put, List.setIfInBounds_toArray, List.set_cons_zero, List.set_cons_succ]
    refine seqL_take (o := { dst := some 39, op := Go.Op.fieldAddr 30 (Go.Operand.tmp 38) 0, type := 0, pos := "ref.go:53", after := #[{ on := 17, ground := Go.Ground.data }, { on := 0, ground := Go.Ground.phase }, { on := 1, ground := Go.Ground.phase }, { on := 2, ground := Go.Ground.phase }, { on := 3, ground := Go.Ground.phase }, { on := 4, ground := Go.Ground.phase }, { on := 5, ground := Go.Ground.phase }, { on := 6, ground := Go.Ground.phase }, { on := 7, ground := Go.Ground.phase }, { on := 8, ground := Go.Ground.phase }, { on := 9, ground := Go.Ground.phase }, { on := 10, ground := Go.Ground.phase }, { on := 11, ground := Go.Ground.phase }, { on := 12, ground := Go.Ground.phase }, { on := 13, ground := Go.Ground.phase }, { on := 14, ground := Go.Ground.phase }, { on := 15, ground := Go.Ground.phase }, { on := 16, ground := Go.Ground.phase }], guard := none }) (v := .pointer (some ⟨d, 0, none⟩)) (by kernel_rfl) (fun _ _ _ h => h) (Or.inl ⟨by kernel_rfl, fun W hW => by go_simp⟩) ?_
    simp only [List.getElem_toArray, List.getElem_cons_zero, List.getElem_cons_succ, Act.put, List.setIfInBounds_toArray, List.set_cons_zero, List.set_cons_succ]
    refine seqL_call (o := { dst := none, op := Go.Op.store 28 (Go.Operand.tmp 39) (Go.Operand.tmp 37), type := 0, pos := "ref.go:53", after := #[{ on := 18, ground := Go.Ground.data }, { on := 16, ground := Go.Ground.data }, { on := 16, ground := Go.Ground.chain }, { on := 0, ground := Go.Ground.phase }, { on := 1, ground := Go.Ground.phase }, { on := 2, ground := Go.Ground.phase }, { on := 3, ground := Go.Ground.phase }, { on := 4, ground := Go.Ground.phase }, { on := 5, ground := Go.Ground.phase }, { on := 6, ground := Go.Ground.phase }, { on := 7, ground := Go.Ground.phase }, { on := 8, ground := Go.Ground.phase }, { on := 9, ground := Go.Ground.phase }, { on := 10, ground := Go.Ground.phase }, { on := 11, ground := Go.Ground.phase }, { on := 12, ground := Go.Ground.phase }, { on := 13, ground := Go.Ground.phase }, { on := 14, ground := Go.Ground.phase }, { on := 15, ground := Go.Ground.phase }, { on := 16, ground := Go.Ground.phase }], guard := none }) (by kernel_rfl) (fun KK hK => ?_)
    rw [if_pos (by kernel_rfl)]
    have s0 : w7.cell? ⟨d, 0, none⟩ = some (.slice (some ⟨b, 0, none⟩) n c) := (cel2 D7.out).1
    have s1 : w7.frozen? ⟨d, 0, none⟩ = false := by simp [World.frozen?, D7.out]
    go_simp
    refine hK.out _ _ (by first | exact .inl rfl | exact .inl trivial | simp) ?_
    clear hK KK
    try simp only [List.getElem_toArray, List.getElem_cons_zero, List.getElem_cons_succ, Act.put, List.setIfInBounds_toArray, List.set_cons_zero, List.set_cons_succ]
    show (Exit.then _ _) .normal _ _
    obtain ⟨w8, H8⟩ : ∃ v, Hid (w7.setCell ⟨d, 0, none⟩ (.slice a7 m7 c7) = v) := ⟨_, rfl⟩
    rw [H8.out]
    have F8 := fin w8 H8
    have K8 : Hid (w8.heap[p2]? = some (.cells #[.int .i64 x.no, .int .i64 x.fm, .int .i64 x.tt, .string x.bs] 38 (0, 0))) := F8.out.1
    have Q8 : Hid (w8.heap[q]? = some (.cells #[.int .i64 0, .int .i64 0, .int .i64 0, .string ⟨#[]⟩] 38 (0, 0))) := F8.out.2.1
    obtain ⟨y0, y1, y2, y3⟩ := cel4 K8.out
    go_wp2_with (refine wpList_store_row (by rfl) 38 (.tmp 4) (.tmp 40) (by rfl) q #[.int .i64 x.no, .int .i64 x.fm, .int .i64 x.tt, .string x.bs] (by rfl) (by rfl) 38 _ Q8.out inf38s rfl (oc4s _ _ _ _) ?_)
    refine bodyPost_ret (res21 Tryd.results21 _ _ q #[.int .i64 x.no, .int .i64 x.fm, .int .i64 x.tt, .string x.bs] (.int .i64 0) (by rfl) (by rfl) (setRow_heap _ _ _ _ _ _ Q8.out) rfl) rfl ⟨a7, rfl, F8.out.2.2⟩
end Go.Proofs.YtkjebbpmafhpgaaDoor
