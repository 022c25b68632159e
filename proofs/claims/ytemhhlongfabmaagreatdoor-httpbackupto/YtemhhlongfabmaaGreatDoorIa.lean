/- HttpWrites, for responses whose bytes have room. -/
import Derived.Test.YtemhhlongfabmaaGreatDoorHz
import Derived.Test.YtemhhlongfabmaaGreatDoorHp
import Derived.Test.YtemhhlongfabmaaGreatDoorHu
import Derived.Laws.OwnMore
namespace Go.Proofs.YtemhhlongfabmaaGreatDoor
open Go.ChangeShapes Go.WideShapes Go.ChangeAt Go.RowKit
set_option maxRecDepth 20000
set_option linter.unusedVariables false
set_option linter.unusedSimpArgs false
def kS : ByteArray := ⟨#[107, 101, 112, 116]⟩
def kF : Fl := (kS, kS)
/- a row of fields copied onto an empty one, and one field more -/
theorem copy_fields {w W : World} {p : Nat} {fa : Option Addr} {fn fc : Nat} {fs : List Fl} (hB : w.heap.size ≤ W.heap.size) (hp : W.heap[p]? = some (.cells #[] 41 (0, 0))) (hq : w.heap.size ≤ p) (hF : Fw W fa fn fs) (hn : fn ≤ 4398046510976) (hz : fa = none → fc = 0) (hb : Below w.heap.size w W) :
    ∃ a' c' W', (Builtin.append_ #[25, 25] 25 #[.slice (some ⟨p, 0, none⟩) 0 0, .slice fa fn fc]).run Tryz.prog W = .ok (.slice a' fn c') W' ∧ Rw W' w.heap.size 41 EF a' fn c' fs ∧ Below w.heap.size w W' ∧ W.grownBy W' (some p) := by
  obtain ⟨i, hi, hz0, hs1, hs2⟩ := info_parts info41
  have ow : W.ownsRow w.heap.size 41 2 (.slice (some ⟨p, 0, none⟩) 0 0) 0 [] := ⟨rfl, .inr ⟨p, 0, #[], rfl, hq, hp, by omega, by simp [maxLen], rfl, rfl⟩⟩
  cases fa with
  | none =>
    have n0 : fn = 0 := by
      rcases hF.at_ with h | ⟨b, off, e, _⟩
      · exact h
      · cases e
    subst n0
    have l0 : fs = [] := List.eq_nil_of_length_eq_zero hF.len.symm
    subst l0
    obtain rfl := hz rfl
    exact ⟨_, _, _, run_append_owned_none (P := Tryz.prog) W w.heap.size 25 25 41 i 2 Tryz.underlying25 hi _ 0 [] ow, ⟨ow, by decide⟩, hb, ⟨rfl, rfl, rfl, Nat.le_refl _, fun _ _ _ => rfl⟩⟩
  | some ad =>
    obtain ⟨v', W', hrun, hown, hgr, _⟩ := run_append_own (P := Tryz.prog) W w.heap.size 25 25 41 i _ 2 32 Tryz.underlying25 hi hz0 hs1 hs2 rfl (by decide) _ 0 [] ow ad fn fc (EF.fl fs) (by rw [EF.fl_len, ← hF.len]; rfl) (fw_cells hF rfl) (EF.fl_oc fs) (by simp only [maxLen]; omega) (by omega) hB
    obtain ⟨a', c', rfl⟩ := rown_slice hown
    simp only [Nat.zero_add, List.nil_append] at hrun hown
    refine ⟨a', c', W', hrun, ⟨hown, by decide⟩, ?_, hgr⟩
    exact hb.grown hgr hB (fun q e => by
      simp [Value.ownBlock] at e
      omega)
theorem add_one {w W : World} {a : Option Addr} {n c p : Nat} {l : List Fl} {f : Fl} (hR : Rw W w.heap.size 41 EF a n c l) (hn : n ≤ 4398046510976) (hp : W.heap[p]? = some (.cells (EF.e f).toArray 41 (0, 0))) (hb : Below w.heap.size w W) :
    ∃ g c' W', (Builtin.append_ #[25, 25] 25 #[.slice a n c, .slice (some ⟨p, 0, none⟩) 1 1]).run Tryz.prog W = .ok (.slice (some ⟨g, 0, none⟩) (n + 1) c') W' ∧ Rw W' w.heap.size 41 EF (some ⟨g, 0, none⟩) (n + 1) c' (l ++ [f]) ∧ Below w.heap.size w W' ∧ W.grownBy W' (blkOf a) := by
  obtain ⟨a', c', W', h1, h2, h3, _⟩ := app_one Tryz.underlying25 info41 rfl (by decide) hR.row hp rfl (EF.one f) (by omega) (by simp only [maxLen]; omega) hb.size
  have h4 : Rw W' w.heap.size 41 EF a' (n + 1) c' (l ++ [f]) := ⟨by rw [EF.fl_app, EF.fl_one]; exact h2, by decide⟩
  obtain ⟨g, e, _⟩ := h4.at_ (i := 0) (by simp)
  subst e
  exact ⟨g, c', W', h1, h4, hb.grown h3 hb.size (fun q e => (hR.lt e).1), h3⟩
theorem fw_pre {w : World} {a : Option Addr} {n : Nat} {l : List Fl} {f : Fl} (h : Fw w a (n + 1) (l ++ [f])) : Fw w a n l := by
  have hl : n = l.length := by have := h.len; simp at this; omega
  have e : ∀ i, i < n → (l ++ [f]).getD i fz = l.getD i fz := fun i hi => by
    unfold List.getD
    rw [List.getElem?_append_left (by omega)]
  refine ⟨hl, by have := h.sz; omega, fun i hi => by rw [← e i hi]; exact h.vs i (by omega), ?_⟩
  by_cases h0 : n = 0
  · exact .inl h0
  · obtain ⟨b, off, h1, h2, h3⟩ := h.at_.resolve_left (by omega)
    exact .inr ⟨b, off, h1, h2, fun i hi => by rw [← e i hi]; exact h3 i (by omega)⟩
theorem flds_run {g n c hi : Nat} (h1 : hi ≤ c) (w : World) : (Instr.sliceAt 25 (.slice (some ⟨g, 0, none⟩) n c) none (some (.int .i64 (hi : Nat))) none).run Tryz.prog w = .ok (.slice (some ⟨g, 0, none⟩) hi c) w := by
  have el : Tryz.prog.elem 25 = 41 := by kernel_rfl
  have hu : Tryz.prog.underlying 25 = some (.slice (Tryz.prog.elem 25)) := by rw [el]; exact Tryz.underlying25
  rw [run_sliceAt_slice w 25 _ _ _ _ hu, run_slice_h w 25 _ n c hu .i64 hi (by omega) (by omega), el, Tryz.sizeOf41]
  simp only [Result.andThen_ok, sliced, Int.toNat_natCast, Nat.zero_mul, Nat.sub_zero]
  congr 2
  have : (⟨g, 0, none⟩ : Addr).add 0 = ⟨g, 0, none⟩ := by unfold Addr.add; simp
  simp [this]
theorem blk_pre {w : World} {g n : Nat} {l r : List Nat} (h : Blk w g (l ++ r)) (hl : ∀ x ∈ l, x < 256) (hn : n = l.length) (hz : l.length ≤ 140737488354304) : Sln w (some ⟨g, 0, none⟩) n l := by
  refine ⟨hn, hl, hz, .inr ⟨g, 0, rfl, h.lt, fun i hi => ?_⟩⟩
  have := h.row i (by rw [List.length_append]; omega)
  rw [this]
  congr 3
  unfold List.getD
  rw [List.getElem?_append_left hi]
structure Iv (w W : World) (g1 : Nat) (st : Int) (fa : Option Addr) (fn fc : Nat) (ba : Option Addr) (bn bc g4 gk c5 g3 g8 n8 : Nat) (L : List Nat) : Prop where
  r : Wb w W g1 st fa fn fc ba bn bc
  i : Wb w W g4 st (some ⟨gk, 0, none⟩) fn c5 (some ⟨g3, 0, none⟩) bn (bn + 6)
  b : Sln W (some ⟨g8, 0, none⟩) n8 L
  k : W.cell? ⟨gk, fn * 2, none⟩ = some (.string kS)
  ne : g1 ≠ g3 ∧ g4 ≠ g3 ∧ g8 ≠ g3 ∧ gk ≠ g3 ∧ w.heap.size ≤ g3
section
variable {w W W' : World} {g1 : Nat} {st : Int} {fa : Option Addr} {fn fc : Nat} {ba : Option Addr} {bn bc g4 gk c5 g3 g8 n8 : Nat} {L : List Nat}
theorem Iv.below (h : Iv w W g1 st fa fn fc ba bn bc g4 gk c5 g3 g8 n8 L) (hb : Below W.heap.size W W') : Iv w W' g1 st fa fn fc ba bn bc g4 gk c5 g3 g8 n8 L :=
  ⟨h.r.below hb, h.i.below hb, h.b.below hb, (hb.cell (p := ⟨gk, fn * 2, none⟩) (cell_lt h.k)).trans h.k, h.ne⟩
theorem Iv.turned {m : Nat} (h : Iv w W g1 st fa fn fc ba bn bc g4 gk c5 g3 g8 n8 L) (ht : Turned W W' g3 m) : Iv w W' g1 st fa fn fc ba bn bc g4 gk c5 g3 g8 n8 L := by
  obtain ⟨_, _, _, _, gr⟩ := ht
  obtain ⟨n1, n4, n8', nk, n0⟩ := h.ne
  have hr : ∀ q, some g3 = some q → w.heap.size ≤ q := fun q e => by cases e; exact n0
  refine ⟨⟨h.r.b.grown gr hr (fun e => n1 (Option.some.inj e))⟩, ⟨h.i.b.grown gr hr (fun e => n4 (Option.some.inj e))⟩, ?_, ?_, h.ne⟩
  · refine ⟨h.b.len, h.b.sli.1, h.b.sli.2.1, ?_⟩
    by_cases h0 : L = []
    · exact .inl h0
    · obtain ⟨b, off, h1, h2, h3⟩ := h.b.sli.2.2.resolve_left h0
      simp only [Option.some.injEq, Addr.mk.injEq, and_true] at h1
      obtain ⟨rfl, rfl⟩ := h1
      exact .inr ⟨g8, 0, rfl, Nat.lt_of_lt_of_le h2 gr.size, fun i hi => (World.cell?_of_block (w := W) (gr.block g8 h2 (fun e => n8' (Option.some.inj e)))).trans (h3 i hi)⟩
  · exact (World.cell?_of_block (w := W) (gr.block gk (cell_lt h.k) (fun e => nk (Option.some.inj e)))).trans h.k
end
theorem one46 (st : Int) (a : Option Addr) (n c : Nat) (b : Option Addr) (m d : Nat) : (#[.int .i64 st, .slice a n c, .slice b m d] : Array Value).all (·.oneCell') = true := by simp [Value.oneCell']
theorem bel_wb {w W : World} {g1 : Nat} {st : Int} {fa : Option Addr} {fn fc : Nat} {ba : Option Addr} {bn bc : Nat} (h : Wb w W g1 st fa fn fc ba bn bc) : Below w.heap.size w W := h.b.bel
set_option maxHeartbeats 8000000 in
theorem writes_n {st : Int} {fa : Option Addr} {fn fc : Nat} {fs : List Fl} {ba : Option Addr} {bn bc : Nat} {body : List Nat} {w : World} {M : Nat → Prop} {E : Nat → Addr} (hR : Hid (Rq w fa fn ba bn fs body)) (hfz : fn ≤ 4398046510976) (hfn : Hid (fa = none → fc = 0)) (hbc : Hid (ba = none → bc = 0)) (h0 : -9223372036854775808 ≤ st) (h1 : st ≤ 9223372036854775807) (hZ : Hid ((wrt st fs body).length ≤ 140737488351232)) (hV : Hid (∀ f ∈ fs, f.2.size ≤ 140737488355328)) (hm : Hid (Mx w)) (hE : Hid (Sent w M E)) (M0 : M 0) (M12 : M 12) (ht : Hid (Tab w)) :
    Calls Tryz.prog 5 #[.agg #[.int .i64 st, .slice fa fn fc, .slice ba bn bc]] w fun e w' => e = .returned (.bool true) ∧ Hid (Below w.heap.size w w') := by
  have bnz : bn ≤ 140737488351232 := by
    have h := hZ.out
    unfold wrt at h
    rw [List.length_append, ← hR.out.b.len] at h
    omega
  obtain ⟨g1, G1⟩ : ∃ g, Hid (w.heap.size = g) := ⟨_, rfl⟩
  obtain ⟨w0, H0⟩ : ∃ w0, Hid (w.alloc (.cells #[.int .i64 st, .slice fa fn fc, .slice ba bn bc] 46) = w0) := ⟨_, rfl⟩
  have B0 : Hid (Wb w w0 g1 st fa fn fc ba bn bc) := by rw [← H0.out, ← G1.out]; exact ⟨Bx.new w w 46 _ (Below.refl _ _)⟩
  go_enter Tryz.func5, Tryz.ntmps5
  go_upto_region 1 with (fail)
  rw [H0.out, G1.out]
  have bl0 := B0.out.b.bel
  go_upto_region 3 with (go_at_call 9; refine (alive_n (hm.out.below bl0) (hE.out.below bl0) M0 M12 (ht.out.below bl0)).mono ?_; rintro e w1 ⟨rfl, D1⟩)
  clear bl0
  have B1 : Hid (Wb w w1 g1 st fa fn fc ba bn bc) := B0.out.below D1.out
  obtain ⟨p2, P2⟩ : ∃ g, Hid (w1.heap.size = g) := ⟨_, rfl⟩
  obtain ⟨w2, H2⟩ : ∃ w2, Hid (w1.alloc (.cells #[] 41) = w2) := ⟨_, rfl⟩
  have B2 : Hid (Wb w w2 g1 st fa fn fc ba bn bc) := by rw [← H2.out]; exact B1.out.below (alloc1 _ _)
  obtain ⟨a3, c3, w3, run3, rw3, d3, gr3⟩ := copy_fields (w := w) (W := w2) (p := p2) (fc := fc) B2.out.b.bel.size (by rw [← H2.out, ← P2.out]; exact heap_alloc_new _ _) (by rw [← P2.out]; exact B1.out.b.bel.size) (hR.out.f.below B2.out.b.bel) hfz hfn.out B2.out.b.bel
  have RUN3 : Hid ((Builtin.append_ #[25, 25] 25 #[.slice (some ⟨p2, 0, none⟩) 0 0, .slice fa fn fc]).run Tryz.prog w2 = .ok (.slice a3 fn c3) w3) := run3
  have R3 : Hid (Rw w3 w.heap.size 41 EF a3 fn c3 fs) := rw3
  have p2g : Hid (g1 < p2) := (by rw [← P2.out]; exact B1.out.b.lt : g1 < p2)
  have B3 : Hid (Wb w w3 g1 st fa fn fc ba bn bc) := ⟨B2.out.b.grown gr3 (fun q e => by
    cases e
    rw [← P2.out]
    exact B1.out.b.bel.size) (fun e => by
    have e2 := Option.some.inj e
    have := p2g.out
    omega)⟩
  clear run3 rw3 gr3 d3
  obtain ⟨p4, P4⟩ : ∃ g, Hid (w3.heap.size = g) := ⟨_, rfl⟩
  obtain ⟨w4, H4⟩ : ∃ w4, Hid (w3.alloc (.cells #[.string { data := #[107, 101, 112, 116] }, .string { data := #[107, 101, 112, 116] }] 41) = w4) := ⟨_, rfl⟩
  have B4 : Hid (Wb w w4 g1 st fa fn fc ba bn bc) := by rw [← H4.out]; exact B3.out.below (alloc1 _ _)
  have R4 : Hid (Rw w4 w.heap.size 41 EF a3 fn c3 fs) := by rw [← H4.out]; exact R3.out.below (alloc1 _ _)
  obtain ⟨gk, c5, w5, run5, rw5, d5, gr5⟩ := add_one (w := w) (f := kF) R4.out hfz (p := p4) (by rw [← H4.out, ← P4.out]; exact heap_alloc_new _ _) B4.out.b.bel
  have RUN5 : Hid ((Builtin.append_ #[25, 25] 25 #[.slice a3 fn c3, .slice (some ⟨p4, 0, none⟩) 1 1]).run Tryz.prog w4 = .ok (.slice (some ⟨gk, 0, none⟩) (fn + 1) c5) w5) := run5
  have R5 : Hid (Rw w5 w.heap.size 41 EF (some ⟨gk, 0, none⟩) (fn + 1) c5 (fs ++ [kF])) := rw5
  have B5 : Hid (Wb w w5 g1 st fa fn fc ba bn bc) := ⟨B4.out.b.grown gr5 (fun q e => (R4.out.lt e).1) (fun e => by
    obtain ⟨cur, h1, _⟩ := R4.out.blk e.symm
    rw [B4.out.b.row] at h1
    cases h1)⟩
  clear run5 rw5 gr5 d5 p2g
  have c5n : fn + 1 ≤ c5 := R5.out.cap
  obtain ⟨q0, q1, q2⟩ := (B1.out.below (alloc1 w1 (.cells #[] 41))).c
  go_upto_region 4 with (first
    | (at_builtin; rw [H2.out, P2.out]; refine wpList_app (by rfl) (.tmp 8) (.tmp 10) (by rfl) (by rfl) (by rfl) (by rfl) RUN3 ?_)
    | (at_builtin; rw [H4.out, P4.out]; refine wpList_app (by rfl) (.tmp 11) (.tmp 13) (by rfl) (by rfl) (by rfl) (by rfl) RUN5 ?_))
  obtain ⟨wd, Hwd⟩ : ∃ wd, Hid (w5.drew = wd) := ⟨_, rfl⟩
  have BWwd : Hid (Below w5.heap.size w5 wd) := by rw [← Hwd.out]; exact (Below.refl _ _).drew
  have SLC : ∀ W, (Instr.sliceAt 25 (.slice (some ⟨gk, 0, none⟩) (fn + 1) c5) none (some (.int .i64 (fn : Int))) none).run Tryz.prog W = .ok (.slice (some ⟨gk, 0, none⟩) fn c5) W := fun W => flds_run (by omega) W
  have hZ2 : Hid ((wrt st fs body).length ≤ 140737488354304) := (by have := hZ.out; omega : (wrt st fs body).length ≤ 140737488354304)
  have BL : Hid (body.length = bn) := hR.out.b.len.symm
  have BLT : Hid (∀ x ∈ body, x < 256) := hR.out.b.lt
  have KEPT : Hid (w5.cell? ⟨gk, fn * 2, none⟩ = some (.string kS)) := by
    have hl : fn < (fs ++ [kF]).length := by rw [List.length_append, ← hR.out.f.len]; simp
    obtain ⟨g, e, _, _, hr⟩ := R5.out.at_ hl
    cases e
    have hx : (fs ++ [kF])[fn] = kF := by
      have := hR.out.f.len
      simp [this]
    rw [hx] at hr
    have h := hr 0 (.string kS) rfl
    have h2 : w5.cell? ⟨gk, fn * 2, none⟩ = some (.string kS) := by simpa [EF] using h
    exact h2
  obtain ⟨LL, HLL⟩ : ∃ l, Hid (wrt st fs body = l) := ⟨_, rfl⟩
  have LLT : Hid (LL.length ≤ 140737488354304) := by rw [← HLL.out]; exact hZ2.out
  have nfn : ¬ ((fn : Int) + 1 ≤ (fn : Int)) := by omega
  have qK : (kS.toList == [107, 101, 112, 116]) = true := beq_lit (t := kS) (decide_eq_true rfl) rfl
  clear q0 q1 q2
  refine wp_region_till (S := fun _ W => Below w5.heap.size w5 W) (by kernel_rfl) (by rw [Hwd.out]; exact BWwd.out) (fun hS => ?_)
  rw [Hwd.out] at hS
  rw [Hwd.out]
  clear Hwd
  refine till_take (i := 0) (v := .pointer (some ⟨g1, 0, none⟩)) rfl (by kernel_rfl) (by kernel_rfl) (by kernel_rfl) (fun _ _ _ h => h) (fun L w => Iff.rfl) (Or.inl ⟨by rfl, fun w => by go_simp⟩) hS (fun hSb => ?_)
  simp only [List.getElem_toArray, List.getElem_cons_zero, List.getElem_cons_succ, Act.put, List.setIfInBounds_toArray, List.set_cons_zero, List.set_cons_succ]
  clear hS
  refine till_read (i := 1) (c := 10) (v := .int .i64 st) (T := fun W => Below w5.heap.size w5 W) rfl rfl (by kernel_rfl) (by kernel_rfl) (by kernel_rfl) (by kernel_rfl) (by kernel_rfl) (fun _ _ _ h => h) (fun L w => Iff.rfl) (fun L w h1 h2 => h2) (Or.inl ⟨by rfl, fun W hW => by obtain ⟨q0, q1, q2⟩ := (B5.out.below hW).c; go_simp⟩) hSb (fun hS => ?_)
  simp only [List.getElem_toArray, List.getElem_cons_zero, List.getElem_cons_succ, Act.put, List.setIfInBounds_toArray, List.set_cons_zero, List.set_cons_succ]
  clear hSb
  refine till_take (i := 2) (v := .slice (some ⟨gk, 0, none⟩) (fn + 1) c5) rfl (by kernel_rfl) (by kernel_rfl) (by kernel_rfl) (fun _ _ _ h => h) (fun L w => Iff.rfl) (Or.inl ⟨by rfl, fun w => by go_simp⟩) hS (fun hSb => ?_)
  simp only [List.getElem_toArray, List.getElem_cons_zero, List.getElem_cons_succ, Act.put, List.setIfInBounds_toArray, List.set_cons_zero, List.set_cons_succ]
  clear hS
  refine till_take (i := 3) (v := .pointer (some ⟨g1, 1, none⟩)) rfl (by kernel_rfl) (by kernel_rfl) (by kernel_rfl) (fun _ _ _ h => h) (fun L w => Iff.rfl) (Or.inl ⟨by rfl, fun w => by go_simp⟩) hSb (fun hS => ?_)
  simp only [List.getElem_toArray, List.getElem_cons_zero, List.getElem_cons_succ, Act.put, List.setIfInBounds_toArray, List.set_cons_zero, List.set_cons_succ]
  clear hSb
  refine till_read (i := 4) (c := 5) (v := .slice fa fn fc) (T := fun W => Below w5.heap.size w5 W) rfl rfl (by kernel_rfl) (by kernel_rfl) (by kernel_rfl) (by kernel_rfl) (by kernel_rfl) (fun _ _ _ h => h) (fun L w => Iff.rfl) (fun L w h1 h2 => h2) (Or.inl ⟨by rfl, fun W hW => by obtain ⟨q0, q1, q2⟩ := (B5.out.below hW).c; go_simp⟩) hS (fun hSb => ?_)
  simp only [List.getElem_toArray, List.getElem_cons_zero, List.getElem_cons_succ, Act.put, List.setIfInBounds_toArray, List.set_cons_zero, List.set_cons_succ]
  clear hS
  refine till_take (i := 5) (v := .int .i64 (fn : Int)) rfl (by kernel_rfl) (by kernel_rfl) (by kernel_rfl) (fun _ _ _ h => h) (fun L w => Iff.rfl) (Or.inl ⟨by rfl, fun w => by go_simp⟩) hSb (fun hS => ?_)
  simp only [List.getElem_toArray, List.getElem_cons_zero, List.getElem_cons_succ, Act.put, List.setIfInBounds_toArray, List.set_cons_zero, List.set_cons_succ]
  clear hSb
  refine till_take (i := 6) (v := .slice (some ⟨gk, 0, none⟩) fn c5) rfl (by kernel_rfl) (by kernel_rfl) (by kernel_rfl) (fun _ _ _ h => h) (fun L w => Iff.rfl) (Or.inl ⟨by rfl, fun w => by go_simp⟩) hS (fun hSb => ?_)
  simp only [List.getElem_toArray, List.getElem_cons_zero, List.getElem_cons_succ, Act.put, List.setIfInBounds_toArray, List.set_cons_zero, List.set_cons_succ]
  clear hS
  refine till_take (i := 7) (v := .pointer (some ⟨g1, 2, none⟩)) rfl (by kernel_rfl) (by kernel_rfl) (by kernel_rfl) (fun _ _ _ h => h) (fun L w => Iff.rfl) (Or.inl ⟨by rfl, fun w => by go_simp⟩) hSb (fun hS => ?_)
  simp only [List.getElem_toArray, List.getElem_cons_zero, List.getElem_cons_succ, Act.put, List.setIfInBounds_toArray, List.set_cons_zero, List.set_cons_succ]
  clear hSb
  refine till_read (i := 8) (c := 9) (v := .slice ba bn bc) (T := fun W => Below w5.heap.size w5 W) rfl rfl (by kernel_rfl) (by kernel_rfl) (by kernel_rfl) (by kernel_rfl) (by kernel_rfl) (fun _ _ _ h => h) (fun L w => Iff.rfl) (fun L w h1 h2 => h2) (Or.inl ⟨by rfl, fun W hW => by obtain ⟨q0, q1, q2⟩ := (B5.out.below hW).c; go_simp⟩) hS (fun hSb => ?_)
  simp only [List.getElem_toArray, List.getElem_cons_zero, List.getElem_cons_succ, Act.put, List.setIfInBounds_toArray, List.set_cons_zero, List.set_cons_succ]
  clear hS
  refine till_two (i := 9) (j := 11) (by kernel_rfl) ?_ ?_
  · refine ⟨_, rfl, fun K hK => ?_⟩
    simp only [List.getElem_toArray, List.getElem_cons_zero, List.getElem_cons_succ]
    rw [if_pos (by rfl)]
    go_simp
    have S_ : Hid (Sln wd ba bn body) := hR.out.b.below ((bel_wb B5.out).trans (BWwd.out.mono (bel_wb B5.out).size))
    go_wp2_with (go_at_call 10; refine (bytes_n (k := bc) S_ hbc).mono ?_; rintro e x1 ⟨g3, N3, rfl, H_⟩; obtain rfl := H_.out.1)
    have NB : Hid (Below wd.heap.size wd x1) := H_.out.2.2.2
    have KBx1 : Hid (Blk x1 g3 (body ++ marks)) := H_.out.2.2.1
    have lg3 : Hid (w5.heap.size ≤ g3) := (by rw [H_.out.2.1]; exact BWwd.out.size : w5.heap.size ≤ g3)
    have BWx1 : Hid (Below w5.heap.size w5 x1) := BWwd.out.trans (NB.out.mono BWwd.out.size)
    refine hK.out _ _ BWx1.out (fun hS => ?_)
    clear hK K
    try simp only [List.getElem_toArray, List.getElem_cons_zero, List.getElem_cons_succ, Act.put, List.setIfInBounds_toArray, List.set_cons_zero, List.set_cons_succ]
    clear hSb
    refine till_take (i := 10) (v := .agg #[.int .i64 st, .slice (some ⟨gk, 0, none⟩) fn c5, .slice (some ⟨g3, 0, none⟩) bn (bn + 6)]) rfl (by kernel_rfl) (by kernel_rfl) (by kernel_rfl) (fun _ _ _ h => h) (fun L w => Iff.rfl) (Or.inl ⟨by rfl, fun w => by go_simp⟩) hS (fun hSb => ?_)
    simp only [List.getElem_toArray, List.getElem_cons_zero, List.getElem_cons_succ, Act.put, List.setIfInBounds_toArray, List.set_cons_zero, List.set_cons_succ]
    clear hS
    refine till_one (i := 11) (by kernel_rfl) rfl (fun K hK => ?_)
    simp only [List.getElem_toArray, List.getElem_cons_zero, List.getElem_cons_succ]
    rw [if_pos (by rfl)]
    go_simp
    obtain ⟨g4, Hg4⟩ : ∃ q, Hid (x1.heap.size = q) := ⟨_, rfl⟩
    obtain ⟨x2, Hx2⟩ : ∃ u, Hid (x1.alloc (.cells #[.int .i64 0, .slice none 0 0, .slice none 0 0] 46) = u) := ⟨_, rfl⟩
    have NB : Hid (Below x1.heap.size x1 x2) := by rw [← Hx2.out]; exact alloc1 x1 _
    have k4x2 : Hid (x2.heap[g4]? = some (.cells #[.int .i64 0, .slice none 0 0, .slice none 0 0] 46 (0, 0))) := by rw [← Hx2.out, ← Hg4.out]; exact heap_alloc_new x1 _
    have lg4 : Hid (w5.heap.size ≤ g4) := (by rw [← Hg4.out]; exact BWx1.out.size : w5.heap.size ≤ g4)
    rw [Hx2.out, Hg4.out]
    have BWx2 : Hid (Below w5.heap.size w5 x2) := BWx1.out.trans (NB.out.mono BWx1.out.size)
    have KBx2 := (show Hid (Blk x2 g3 (body ++ marks)) from KBx1.out.below NB.out KBx1.out.lt)
    refine hK.out _ _ BWx2.out (fun hS => ?_)
    clear hK K
    try simp only [List.getElem_toArray, List.getElem_cons_zero, List.getElem_cons_succ, Act.put, List.setIfInBounds_toArray, List.set_cons_zero, List.set_cons_succ]
    clear hSb
    have n43 : Hid (¬ g4 = g3) := fun e => by
      have h1 := k4x2.out
      have h2 := KBx2.out
      unfold Blk at h2
      rw [e, h2] at h1
      simp at h1
    refine till_one (i := 12) (by kernel_rfl) rfl (fun K hK => ?_)
    simp only [List.getElem_toArray, List.getElem_cons_zero, List.getElem_cons_succ]
    rw [if_pos (by rfl)]
    refine wp_store_row 46 (.tmp 4) (.tmp 25) (by rfl) g4 #[.int .i64 st, .slice (some ⟨gk, 0, none⟩) fn c5, .slice (some ⟨g3, 0, none⟩) bn (bn + 6)] (by rfl) (by rfl) 46 _ k4x2.out info46 (by rfl) (one46 _ _ _ _ _ _ _) ?_
    obtain ⟨y, Hy⟩ : ∃ u, Hid (x2.setRow g4 #[.int .i64 st, .slice (some ⟨gk, 0, none⟩) fn c5, .slice (some ⟨g3, 0, none⟩) bn (bn + 6)] = u) := ⟨_, rfl⟩
    have BY : Hid (Below w5.heap.size w5 y) := by rw [← Hy.out]; exact below_setRow BWx2.out lg4.out _
    have k4y : Hid (y.heap[g4]? = some (.cells #[.int .i64 st, .slice (some ⟨gk, 0, none⟩) fn c5, .slice (some ⟨g3, 0, none⟩) bn (bn + 6)] 46 (0, 0))) := by rw [← Hy.out]; exact setRow_heap _ _ _ _ _ _ k4x2.out
    have KBy : Hid (Blk y g3 (body ++ marks)) := by rw [← Hy.out]; exact (setRow_other _ _ _ _ (fun e => n43.out e.symm)).trans KBx2.out
    rw [Hy.out]
    refine hK.out _ _ BY.out (fun hSb => ?_)
    clear hK K
    try simp only [List.getElem_toArray, List.getElem_cons_zero, List.getElem_cons_succ, Act.put, List.setIfInBounds_toArray, List.set_cons_zero, List.set_cons_succ]
    clear hS
    refine till_done (by kernel_rfl) ?_ _
    clear hSb
    show (Exit.then _ _) .normal _ _
    have RY : Hid (Wb w y g1 st fa fn fc ba bn bc) := B5.out.below BY.out
    have IY : Hid (Wb w y g4 st (some ⟨gk, 0, none⟩) fn c5 (some ⟨g3, 0, none⟩) bn (bn + 6)) := ⟨⟨k4y.out, RY.out.b.bel, Nat.le_trans (bel_wb B5.out).size lg4.out⟩⟩
    have n13 : Hid (¬ g1 = g3) := fun e => by
      have h1 := RY.out.b.row
      have h2 := KBy.out
      unfold Blk at h2
      rw [e, h2] at h1
      simp at h1
    have nk3 : Hid (¬ gk = g3) := fun e => by
      have h1 := cell_lt KEPT.out
      have h2 := lg3.out
      rw [e] at h1
      exact absurd h1 (Nat.not_lt.2 h2)
    have F5 : Hid (Fw y (some ⟨gk, 0, none⟩) fn fs) := fw_pre (fw_rw (R5.out.below BY.out) (by omega) (fun f hf => by
      rcases List.mem_append.1 hf with hf | hf
      · exact hV.out f hf
      · rw [List.mem_singleton] at hf
        rw [hf]
        exact (by decide : kS.size ≤ 140737488355328)))
    have SI : Hid (Sln y (some ⟨g3, 0, none⟩) bn body) := blk_pre KBy.out BLT.out BL.out.symm (by rw [BL.out]; omega)
    obtain ⟨q0, q1, q2⟩ := IY.out.c
    go_upto_region 6 with (go_at_call 21; refine (write_n (fc := c5) (bc := bn + 6) F5 hfz (by omega) SI (fun h => by cases h) (ht.out.below (bel_wb RY.out)) h0 h1 hZ2).mono ?_; rintro e w8 ⟨a8, n8, c8, rfl, H8⟩)
    clear q0 q1 q2
    obtain ⟨g8, cur8, fr8, rfl, lg8, _, _, _, _, _⟩ := H8.out.1.row
    have n83 : Hid (¬ g8 = g3) := fun e => by
      have h1 := KBy.out.lt
      rw [e] at lg8
      exact absurd h1 (Nat.not_lt.2 lg8)
    have I8 : Hid (Iv w w8 g1 st fa fn fc ba bn bc g4 gk c5 g3 g8 n8 LL) := by
      refine ⟨RY.out.below H8.out.2, IY.out.below H8.out.2, ?_, ?_, n13.out, n43.out, n83.out, nk3.out, Nat.le_trans (bel_wb B5.out).size lg3.out⟩
      · have h := H8.out.1.sln (by rw [H8.out.1.len]; exact hZ2.out)
        rw [HLL.out] at h
        exact h
      · exact ((BY.out.trans (H8.out.2.mono BY.out.size)).cell (p := ⟨gk, fn * 2, none⟩) (cell_lt KEPT.out)).trans KEPT.out
    have K8 : Hid (Blk w8 g3 (body ++ marks)) := KBy.out.below H8.out.2 KBy.out.lt
    have LMK : Hid (bn + 6 = (body ++ marks).length) := (by rw [List.length_append, BL.out]; rfl : bn + 6 = (body ++ marks).length)
    have LML : Hid (∀ x ∈ body ++ marks, x < 256) := fun x hx => by
      rcases List.mem_append.1 hx with hx | hx
      · exact BLT.out x hx
      · have : ∀ x ∈ marks, x < 256 := by decide
        exact this x hx
    clear lg8 F5 SI
    obtain ⟨wz, HWz⟩ : ∃ wz, Hid (w8.drew = wz) := ⟨_, rfl⟩
    have DZ : Hid (Below w8.heap.size w8 wz) := by rw [← HWz.out]; exact (Below.refl _ _).drew
    have IZ : Hid (Iv w wz g1 st fa fn fc ba bn bc g4 gk c5 g3 g8 n8 LL) := I8.out.below DZ.out
    have KZ : Hid (Blk wz g3 (body ++ marks)) := K8.out.below DZ.out K8.out.lt
    refine wp_region_seq (C := fun W => Iv w W g1 st fa fn fc ba bn bc g4 gk c5 g3 g8 n8 LL) [(0, false), (1, false), (2, false), (3, true), (4, true), (5, false), (6, false), (7, false), (8, false), (9, false), (10, false), (11, false), (12, false), (13, false), (14, false), (15, false), (16, false), (17, false), (18, false), (19, true), (20, false), (21, false), (22, false), (23, false), (24, false), (25, true), (26, false), (27, false)] (by kernel_rfl) (by kernel_rfl) (by rw [HWz.out]; exact IZ.out) ?_
    refine seq_take (o := { dst := some 28, op := Go.Op.move (Go.Operand.tmp 5), type := 22, pos := "law.go:54", after := #[], guard := none }) (v := .slice (some ⟨g8, 0, none⟩) n8 c8) (by kernel_rfl) (fun _ _ _ h => h) (Or.inl ⟨by kernel_rfl, fun W hW => by go_simp⟩) ?_
    simp only [List.getElem_toArray, List.getElem_cons_zero, List.getElem_cons_succ, Act.put, List.setIfInBounds_toArray, List.set_cons_zero, List.set_cons_succ]
    refine seq_take (o := { dst := some 29, op := Go.Op.convert 22 9 (Go.Operand.tmp 28), type := 9, pos := "law.go:54", after := #[{ on := 0, ground := Go.Ground.data }], guard := none }) (v := .string (spell LL)) (by kernel_rfl) (fun _ _ _ h => h) (Or.inl ⟨by kernel_rfl, fun W hW => by have CV := conv_n (k := c8) (show Hid _ from hW.b); go_simp⟩) ?_
    simp only [List.getElem_toArray, List.getElem_cons_zero, List.getElem_cons_succ, Act.put, List.setIfInBounds_toArray, List.set_cons_zero, List.set_cons_succ]
    refine seq_take (o := { dst := some 30, op := Go.Op.load 46 (Go.Operand.tmp 1), type := 46, pos := "law.go:54", after := #[], guard := none }) (v := .agg #[.int .i64 st, .slice fa fn fc, .slice ba bn bc]) (by kernel_rfl) (fun _ _ _ h => h) (Or.inl ⟨by kernel_rfl, fun W hW => by obtain ⟨q0, q1, q2⟩ := hW.r.c; go_simp⟩) ?_
    simp only [List.getElem_toArray, List.getElem_cons_zero, List.getElem_cons_succ, Act.put, List.setIfInBounds_toArray, List.set_cons_zero, List.set_cons_succ]
    refine seq_call (o := { dst := some 31, op := Go.Op.call { callee := Go.Callee.value (Go.Operand.func 22), args := #[Go.Operand.tmp 30], argTypes := #[46] }, type := 22, pos := "law.go:54", after := #[{ on := 2, ground := Go.Ground.data }], guard := none }) (by kernel_rfl) (fun KK hK => ?_)
    rw [if_pos (by kernel_rfl)]
    rw [HWz.out]
    have FQ : Hid (Rq wz fa fn ba bn fs body) := hR.out.below (bel_wb IZ.out.r)
    go_wp2_with (go_at_call 22; refine (refwrite_n (fc := fc) (bc := bc) (show Hid _ from FQ.out.f) (show Hid _ from FQ.out.b) hbc h0 h1 hZ2).mono ?_; rintro e w9 ⟨a9, n9, c9, rfl, H9⟩)
    have I9 : Hid (Iv w w9 g1 st fa fn fc ba bn bc g4 gk c5 g3 g8 n8 LL) := IZ.out.below H9.out.2
    have K9 : Hid (Blk w9 g3 (body ++ marks)) := KZ.out.below H9.out.2 KZ.out.lt
    have S9 : Hid (Sln w9 a9 n9 LL) := by
      have h := H9.out.1.sln (by rw [H9.out.1.len]; exact hZ2.out)
      rw [HLL.out] at h
      exact h
    refine hK.out _ _ (I9.out) ?_
    clear hK KK
    try simp only [List.getElem_toArray, List.getElem_cons_zero, List.getElem_cons_succ, Act.put, List.setIfInBounds_toArray, List.set_cons_zero, List.set_cons_succ]
    refine seq_call (o := { dst := some 32, op := Go.Op.convert 22 9 (Go.Operand.tmp 31), type := 9, pos := "law.go:54", after := #[{ on := 3, ground := Go.Ground.data }], guard := none }) (by kernel_rfl) (fun KK hK => ?_)
    rw [if_pos (by kernel_rfl)]
    have CV := conv_n (k := c9) S9
    go_simp
    clear CV
    refine hK.out _ _ (I9.out) ?_
    clear hK KK
    try simp only [List.getElem_toArray, List.getElem_cons_zero, List.getElem_cons_succ, Act.put, List.setIfInBounds_toArray, List.set_cons_zero, List.set_cons_succ]
    refine seq_take (o := { dst := some 33, op := Go.Op.binOp Go.BinOp.eql 9 (Go.Operand.tmp 29) (Go.Operand.tmp 32) 9, type := 4, pos := "law.go:54", after := #[{ on := 1, ground := Go.Ground.data }, { on := 4, ground := Go.Ground.data }], guard := none }) (v := .bool true) (by kernel_rfl) (fun _ _ _ h => h) (Or.inl ⟨by kernel_rfl, fun W hW => by go_simp⟩) ?_
    simp only [List.getElem_toArray, List.getElem_cons_zero, List.getElem_cons_succ, Act.put, List.setIfInBounds_toArray, List.set_cons_zero, List.set_cons_succ]
    refine seq_take (o := { dst := some 34, op := Go.Op.move (Go.Operand.tmp 33), type := 4, pos := "law.go:54", after := #[{ on := 5, ground := Go.Ground.data }, { on := 3, ground := Go.Ground.chain }], guard := none }) (v := .bool true) (by kernel_rfl) (fun _ _ _ h => h) (Or.inl ⟨by kernel_rfl, fun W hW => by go_simp⟩) ?_
    simp only [List.getElem_toArray, List.getElem_cons_zero, List.getElem_cons_succ, Act.put, List.setIfInBounds_toArray, List.set_cons_zero, List.set_cons_succ]
    refine seq_take (o := { dst := some 35, op := Go.Op.move (Go.Operand.tmp 3), type := 25, pos := "law.go:54", after := #[{ on := 6, ground := Go.Ground.guard }], guard := some (6, true) }) (v := .slice (some ⟨gk, 0, none⟩) (fn + 1) c5) (by kernel_rfl) (fun _ _ _ h => h) (Or.inl ⟨by kernel_rfl, fun W hW => by go_simp⟩) ?_
    simp only [List.getElem_toArray, List.getElem_cons_zero, List.getElem_cons_succ, Act.put, List.setIfInBounds_toArray, List.set_cons_zero, List.set_cons_succ]
    refine seq_take (o := { dst := some 36, op := Go.Op.fieldAddr 46 (Go.Operand.tmp 1) 1, type := 0, pos := "law.go:54", after := #[{ on := 6, ground := Go.Ground.guard }], guard := some (6, true) }) (v := .pointer (some ⟨g1, 1, none⟩)) (by kernel_rfl) (fun _ _ _ h => h) (Or.inl ⟨by kernel_rfl, fun W hW => by go_simp⟩) ?_
    simp only [List.getElem_toArray, List.getElem_cons_zero, List.getElem_cons_succ, Act.put, List.setIfInBounds_toArray, List.set_cons_zero, List.set_cons_succ]
    refine seq_take (o := { dst := some 37, op := Go.Op.load 25 (Go.Operand.tmp 36), type := 25, pos := "law.go:54", after := #[{ on := 8, ground := Go.Ground.data }, { on := 6, ground := Go.Ground.guard }], guard := some (6, true) }) (v := .slice fa fn fc) (by kernel_rfl) (fun _ _ _ h => h) (Or.inl ⟨by kernel_rfl, fun W hW => by obtain ⟨q0, q1, q2⟩ := hW.r.c; go_simp⟩) ?_
    simp only [List.getElem_toArray, List.getElem_cons_zero, List.getElem_cons_succ, Act.put, List.setIfInBounds_toArray, List.set_cons_zero, List.set_cons_succ]
    refine seq_take (o := { dst := some 38, op := Go.Op.call { callee := Go.Callee.builtin Go.Builtin.len, args := #[Go.Operand.tmp 37], argTypes := #[25] }, type := 3, pos := "law.go:54", after := #[{ on := 9, ground := Go.Ground.data }, { on := 6, ground := Go.Ground.guard }], guard := some (6, true) }) (v := .int .i64 (fn : Int)) (by kernel_rfl) (fun _ _ _ h => h) (Or.inl ⟨by kernel_rfl, fun W hW => by go_simp⟩) ?_
    simp only [List.getElem_toArray, List.getElem_cons_zero, List.getElem_cons_succ, Act.put, List.setIfInBounds_toArray, List.set_cons_zero, List.set_cons_succ]
    refine seq_take (o := { dst := some 39, op := Go.Op.indexAddr 25 (Go.Operand.tmp 35) (Go.Operand.tmp 38), type := 0, pos := "law.go:54", after := #[{ on := 7, ground := Go.Ground.data }, { on := 10, ground := Go.Ground.data }, { on := 6, ground := Go.Ground.guard }], guard := some (6, true) }) (v := .pointer (some ⟨gk, fn * 2, none⟩)) (by kernel_rfl) (fun _ _ _ h => h) (Or.inl ⟨by kernel_rfl, fun W hW => by go_simp⟩) ?_
    simp only [List.getElem_toArray, List.getElem_cons_zero, List.getElem_cons_succ, Act.put, List.setIfInBounds_toArray, List.set_cons_zero, List.set_cons_succ]
    refine seq_take (o := { dst := some 40, op := Go.Op.fieldAddr 41 (Go.Operand.tmp 39) 0, type := 0, pos := "law.go:54", after := #[{ on := 11, ground := Go.Ground.data }, { on := 6, ground := Go.Ground.guard }], guard := some (6, true) }) (v := .pointer (some ⟨gk, fn * 2, none⟩)) (by kernel_rfl) (fun _ _ _ h => h) (Or.inl ⟨by kernel_rfl, fun W hW => by go_simp⟩) ?_
    simp only [List.getElem_toArray, List.getElem_cons_zero, List.getElem_cons_succ, Act.put, List.setIfInBounds_toArray, List.set_cons_zero, List.set_cons_succ]
    refine seq_take (o := { dst := some 41, op := Go.Op.load 9 (Go.Operand.tmp 40), type := 9, pos := "law.go:54", after := #[{ on := 12, ground := Go.Ground.data }, { on := 6, ground := Go.Ground.guard }], guard := some (6, true) }) (v := .string kS) (by kernel_rfl) (fun _ _ _ h => h) (Or.inl ⟨by kernel_rfl, fun W hW => by have k0 := hW.k; go_simp⟩) ?_
    simp only [List.getElem_toArray, List.getElem_cons_zero, List.getElem_cons_succ, Act.put, List.setIfInBounds_toArray, List.set_cons_zero, List.set_cons_succ]
    refine seq_take (o := { dst := some 42, op := Go.Op.binOp Go.BinOp.eql 9 (Go.Operand.tmp 41) (Go.Operand.const (Go.Value.string { data := #[107, 101, 112, 116] })) 9, type := 4, pos := "law.go:54", after := #[{ on := 13, ground := Go.Ground.data }, { on := 6, ground := Go.Ground.guard }], guard := some (6, true) }) (v := .bool true) (by kernel_rfl) (fun _ _ _ h => h) (Or.inl ⟨by kernel_rfl, fun W hW => by go_simp⟩) ?_
    simp only [List.getElem_toArray, List.getElem_cons_zero, List.getElem_cons_succ, Act.put, List.setIfInBounds_toArray, List.set_cons_zero, List.set_cons_succ]
    refine seq_take (o := { dst := some 43, op := Go.Op.pick (Go.Operand.tmp 34) (Go.Operand.tmp 42) (Go.Operand.const (Go.Value.bool false)), type := 4, pos := "law.go:54", after := #[{ on := 6, ground := Go.Ground.data }, { on := 14, ground := Go.Ground.data }], guard := none }) (v := .bool true) (by kernel_rfl) (fun _ _ _ h => h) (Or.inl ⟨by kernel_rfl, fun W hW => by go_simp⟩) ?_
    simp only [List.getElem_toArray, List.getElem_cons_zero, List.getElem_cons_succ, Act.put, List.setIfInBounds_toArray, List.set_cons_zero, List.set_cons_succ]
    refine seq_take (o := { dst := some 44, op := Go.Op.move (Go.Operand.tmp 43), type := 4, pos := "law.go:54", after := #[{ on := 15, ground := Go.Ground.data }, { on := 6, ground := Go.Ground.chain }], guard := none }) (v := .bool true) (by kernel_rfl) (fun _ _ _ h => h) (Or.inl ⟨by kernel_rfl, fun W hW => by go_simp⟩) ?_
    simp only [List.getElem_toArray, List.getElem_cons_zero, List.getElem_cons_succ, Act.put, List.setIfInBounds_toArray, List.set_cons_zero, List.set_cons_succ]
    refine seq_take (o := { dst := some 45, op := Go.Op.load 46 (Go.Operand.tmp 4), type := 46, pos := "law.go:54", after := #[{ on := 16, ground := Go.Ground.guard }], guard := some (16, true) }) (v := .agg #[.int .i64 st, .slice (some ⟨gk, 0, none⟩) fn c5, .slice (some ⟨g3, 0, none⟩) bn (bn + 6)]) (by kernel_rfl) (fun _ _ _ h => h) (Or.inl ⟨by kernel_rfl, fun W hW => by obtain ⟨q0, q1, q2⟩ := hW.i.c; go_simp⟩) ?_
    simp only [List.getElem_toArray, List.getElem_cons_zero, List.getElem_cons_succ, Act.put, List.setIfInBounds_toArray, List.set_cons_zero, List.set_cons_succ]
    refine seq_take (o := { dst := some 46, op := Go.Op.load 46 (Go.Operand.tmp 1), type := 46, pos := "law.go:54", after := #[{ on := 16, ground := Go.Ground.guard }], guard := some (16, true) }) (v := .agg #[.int .i64 st, .slice fa fn fc, .slice ba bn bc]) (by kernel_rfl) (fun _ _ _ h => h) (Or.inl ⟨by kernel_rfl, fun W hW => by obtain ⟨q0, q1, q2⟩ := hW.r.c; go_simp⟩) ?_
    simp only [List.getElem_toArray, List.getElem_cons_zero, List.getElem_cons_succ, Act.put, List.setIfInBounds_toArray, List.set_cons_zero, List.set_cons_succ]
    refine seq_call (o := { dst := some 47, op := Go.Op.call { callee := Go.Callee.value (Go.Operand.func 23), args := #[Go.Operand.tmp 45, Go.Operand.tmp 46], argTypes := #[46, 46] }, type := 4, pos := "law.go:54", after := #[{ on := 17, ground := Go.Ground.data }, { on := 18, ground := Go.Ground.data }, { on := 16, ground := Go.Ground.chain }, { on := 16, ground := Go.Ground.guard }], guard := some (16, true) }) (by kernel_rfl) (fun KK hK => ?_)
    rw [if_pos (by kernel_rfl)]
    have QR : Hid (Rq w9 fa fn ba bn fs body) := hR.out.below (bel_wb I9.out.r)
    have QI : Hid (Rq w9 (some ⟨gk, 0, none⟩) fn (some ⟨g3, 0, none⟩) bn fs body) := by
      have hb9 : Below w5.heap.size w5 w9 := BY.out.trans ((H8.out.2.trans ((DZ.out.mono H8.out.2.size).trans (H9.out.2.mono (DZ.out.mono H8.out.2.size |>.size |> Nat.le_trans H8.out.2.size)))).mono BY.out.size)
      refine ⟨fw_pre (f := kF) (fw_rw (R5.out.below hb9) (by omega) (fun f hf => ?_)), blk_pre K9.out BLT.out BL.out.symm (by rw [BL.out]; omega)⟩
      rcases List.mem_append.1 hf with hf | hf
      · exact hV.out f hf
      · rw [List.mem_singleton] at hf
        rw [hf]
        exact (by decide : kS.size ≤ 140737488355328)
    go_wp2_with (go_at_call 23; refine (sameresp_n (fc := c5) (fc' := fc) (bc := bn + 6) (bc' := bc) QI QR).mono ?_; rintro e wa ⟨rfl, DA⟩)
    have IA : Hid (Iv w wa g1 st fa fn fc ba bn bc g4 gk c5 g3 g8 n8 LL) := I9.out.below DA.out
    have KA : Hid (Blk wa g3 (body ++ marks)) := K9.out.below DA.out K9.out.lt
    refine hK.out _ _ (IA.out) ?_
    clear hK KK
    try simp only [List.getElem_toArray, List.getElem_cons_zero, List.getElem_cons_succ, Act.put, List.setIfInBounds_toArray, List.set_cons_zero, List.set_cons_succ]
    refine seq_take (o := { dst := some 48, op := Go.Op.pick (Go.Operand.tmp 44) (Go.Operand.tmp 47) (Go.Operand.const (Go.Value.bool false)), type := 4, pos := "law.go:54", after := #[{ on := 16, ground := Go.Ground.data }, { on := 19, ground := Go.Ground.data }], guard := none }) (v := .bool true) (by kernel_rfl) (fun _ _ _ h => h) (Or.inl ⟨by kernel_rfl, fun W hW => by go_simp⟩) ?_
    simp only [List.getElem_toArray, List.getElem_cons_zero, List.getElem_cons_succ, Act.put, List.setIfInBounds_toArray, List.set_cons_zero, List.set_cons_succ]
    refine seq_take (o := { dst := some 49, op := Go.Op.move (Go.Operand.tmp 48), type := 4, pos := "law.go:54", after := #[{ on := 20, ground := Go.Ground.data }, { on := 19, ground := Go.Ground.chain }], guard := none }) (v := .bool true) (by kernel_rfl) (fun _ _ _ h => h) (Or.inl ⟨by kernel_rfl, fun W hW => by go_simp⟩) ?_
    simp only [List.getElem_toArray, List.getElem_cons_zero, List.getElem_cons_succ, Act.put, List.setIfInBounds_toArray, List.set_cons_zero, List.set_cons_succ]
    refine seq_take (o := { dst := some 50, op := Go.Op.move (Go.Operand.tmp 5), type := 22, pos := "law.go:54", after := #[{ on := 21, ground := Go.Ground.guard }], guard := some (21, true) }) (v := .slice (some ⟨g8, 0, none⟩) n8 c8) (by kernel_rfl) (fun _ _ _ h => h) (Or.inl ⟨by kernel_rfl, fun W hW => by go_simp⟩) ?_
    simp only [List.getElem_toArray, List.getElem_cons_zero, List.getElem_cons_succ, Act.put, List.setIfInBounds_toArray, List.set_cons_zero, List.set_cons_succ]
    refine seq_take (o := { dst := some 51, op := Go.Op.fieldAddr 46 (Go.Operand.tmp 4) 2, type := 0, pos := "law.go:54", after := #[{ on := 21, ground := Go.Ground.guard }], guard := some (21, true) }) (v := .pointer (some ⟨g4, 2, none⟩)) (by kernel_rfl) (fun _ _ _ h => h) (Or.inl ⟨by kernel_rfl, fun W hW => by go_simp⟩) ?_
    simp only [List.getElem_toArray, List.getElem_cons_zero, List.getElem_cons_succ, Act.put, List.setIfInBounds_toArray, List.set_cons_zero, List.set_cons_succ]
    refine seq_take (o := { dst := some 52, op := Go.Op.load 22 (Go.Operand.tmp 51), type := 22, pos := "law.go:54", after := #[{ on := 23, ground := Go.Ground.data }, { on := 21, ground := Go.Ground.guard }], guard := some (21, true) }) (v := .slice (some ⟨g3, 0, none⟩) bn (bn + 6)) (by kernel_rfl) (fun _ _ _ h => h) (Or.inl ⟨by kernel_rfl, fun W hW => by obtain ⟨q0, q1, q2⟩ := hW.i.c; go_simp⟩) ?_
    simp only [List.getElem_toArray, List.getElem_cons_zero, List.getElem_cons_succ, Act.put, List.setIfInBounds_toArray, List.set_cons_zero, List.set_cons_succ]
    refine seq_call (o := { dst := some 53, op := Go.Op.call { callee := Go.Callee.value (Go.Operand.func 16), args := #[Go.Operand.tmp 50, Go.Operand.tmp 52], argTypes := #[22, 22] }, type := 4, pos := "law.go:54", after := #[{ on := 22, ground := Go.Ground.data }, { on := 24, ground := Go.Ground.data }, { on := 21, ground := Go.Ground.chain }, { on := 21, ground := Go.Ground.guard }], guard := some (21, true) }) (by kernel_rfl) (fun KK hK => ?_)
    rw [if_pos (by kernel_rfl)]
    go_wp2_with (go_at_call 16; refine (apart_n (ka := c8) (show Hid _ from IA.out.b) KA LML LMK bnz (show Hid _ from IA.out.ne.2.2.1)).mono ?_; rintro e wb ⟨rfl, TB⟩)
    have IB : Hid (Iv w wb g1 st fa fn fc ba bn bc g4 gk c5 g3 g8 n8 LL) := IA.out.turned TB.out
    refine hK.out _ _ (IB.out) ?_
    clear hK KK
    try simp only [List.getElem_toArray, List.getElem_cons_zero, List.getElem_cons_succ, Act.put, List.setIfInBounds_toArray, List.set_cons_zero, List.set_cons_succ]
    refine seq_take (o := { dst := some 54, op := Go.Op.pick (Go.Operand.tmp 49) (Go.Operand.tmp 53) (Go.Operand.const (Go.Value.bool false)), type := 4, pos := "law.go:54", after := #[{ on := 21, ground := Go.Ground.data }, { on := 25, ground := Go.Ground.data }], guard := none }) (v := .bool true) (by kernel_rfl) (fun _ _ _ h => h) (Or.inl ⟨by kernel_rfl, fun W hW => by go_simp⟩) ?_
    simp only [List.getElem_toArray, List.getElem_cons_zero, List.getElem_cons_succ, Act.put, List.setIfInBounds_toArray, List.set_cons_zero, List.set_cons_succ]
    refine seq_take (o := { dst := some 2, op := Go.Op.assign (Go.Operand.tmp 54), type := 4, pos := "law.go:54", after := #[{ on := 26, ground := Go.Ground.data }, { on := 25, ground := Go.Ground.chain }, { on := 0, ground := Go.Ground.phase }, { on := 1, ground := Go.Ground.phase }, { on := 2, ground := Go.Ground.phase }, { on := 3, ground := Go.Ground.phase }, { on := 4, ground := Go.Ground.phase }, { on := 5, ground := Go.Ground.phase }, { on := 6, ground := Go.Ground.phase }, { on := 7, ground := Go.Ground.phase }, { on := 8, ground := Go.Ground.phase }, { on := 9, ground := Go.Ground.phase }, { on := 10, ground := Go.Ground.phase }, { on := 11, ground := Go.Ground.phase }, { on := 12, ground := Go.Ground.phase }, { on := 13, ground := Go.Ground.phase }, { on := 14, ground := Go.Ground.phase }, { on := 15, ground := Go.Ground.phase }, { on := 16, ground := Go.Ground.phase }, { on := 17, ground := Go.Ground.phase }, { on := 18, ground := Go.Ground.phase }, { on := 19, ground := Go.Ground.phase }, { on := 20, ground := Go.Ground.phase }, { on := 21, ground := Go.Ground.phase }, { on := 22, ground := Go.Ground.phase }, { on := 23, ground := Go.Ground.phase }, { on := 24, ground := Go.Ground.phase }, { on := 25, ground := Go.Ground.phase }, { on := 26, ground := Go.Ground.phase }], guard := none }) (v := .bool true) (by kernel_rfl) (fun _ _ _ h => h) (Or.inl ⟨by kernel_rfl, fun W hW => by go_simp⟩) ?_
    simp only [List.getElem_toArray, List.getElem_cons_zero, List.getElem_cons_succ, Act.put, List.setIfInBounds_toArray, List.set_cons_zero, List.set_cons_succ]
    show (Exit.then _ _) .normal _ _
    go_wp2
    go_ret
    exact ⟨rfl, bel_wb IB.out.r⟩
  · refine ⟨_, rfl, fun K hK => ?_⟩
    simp only [List.getElem_toArray, List.getElem_cons_zero, List.getElem_cons_succ]
    rw [if_pos (by rfl)]
    go_simp
    obtain ⟨g4, Hg4⟩ : ∃ q, Hid (wd.heap.size = q) := ⟨_, rfl⟩
    obtain ⟨x3, Hx3⟩ : ∃ u, Hid (wd.alloc (.cells #[.int .i64 0, .slice none 0 0, .slice none 0 0] 46) = u) := ⟨_, rfl⟩
    have NB : Hid (Below wd.heap.size wd x3) := by rw [← Hx3.out]; exact alloc1 wd _
    have k4x3 : Hid (x3.heap[g4]? = some (.cells #[.int .i64 0, .slice none 0 0, .slice none 0 0] 46 (0, 0))) := by rw [← Hx3.out, ← Hg4.out]; exact heap_alloc_new wd _
    have lg4 : Hid (w5.heap.size ≤ g4) := (by rw [← Hg4.out]; exact BWwd.out.size : w5.heap.size ≤ g4)
    rw [Hx3.out, Hg4.out]
    have BWx3 : Hid (Below w5.heap.size w5 x3) := BWwd.out.trans (NB.out.mono BWwd.out.size)
    refine hK.out _ _ BWx3.out (fun hS => ?_)
    clear hK K
    try simp only [List.getElem_toArray, List.getElem_cons_zero, List.getElem_cons_succ, Act.put, List.setIfInBounds_toArray, List.set_cons_zero, List.set_cons_succ]
    clear hSb
    refine till_one (i := 9) (by kernel_rfl) rfl (fun K hK => ?_)
    simp only [List.getElem_toArray, List.getElem_cons_zero, List.getElem_cons_succ]
    rw [if_pos (by rfl)]
    go_simp
    have S_ : Hid (Sln x3 ba bn body) := hR.out.b.below ((bel_wb B5.out).trans (BWx3.out.mono (bel_wb B5.out).size))
    go_wp2_with (go_at_call 10; refine (bytes_n (k := bc) S_ hbc).mono ?_; rintro e x4 ⟨g3, N3, rfl, H_⟩; obtain rfl := H_.out.1)
    have NB : Hid (Below x3.heap.size x3 x4) := H_.out.2.2.2
    have KBx4 : Hid (Blk x4 g3 (body ++ marks)) := H_.out.2.2.1
    have lg3 : Hid (w5.heap.size ≤ g3) := (by rw [H_.out.2.1]; exact BWx3.out.size : w5.heap.size ≤ g3)
    have BWx4 : Hid (Below w5.heap.size w5 x4) := BWx3.out.trans (NB.out.mono BWx3.out.size)
    have k4x4 := (show Hid (x4.heap[g4]? = some (.cells #[.int .i64 0, .slice none 0 0, .slice none 0 0] 46 (0, 0))) from (NB.out.block _ (Array.getElem?_eq_some_iff.1 k4x3.out).1).trans k4x3.out)
    refine hK.out _ _ BWx4.out (fun hSb => ?_)
    clear hK K
    try simp only [List.getElem_toArray, List.getElem_cons_zero, List.getElem_cons_succ, Act.put, List.setIfInBounds_toArray, List.set_cons_zero, List.set_cons_succ]
    clear hS
    refine till_take (i := 10) (v := .agg #[.int .i64 st, .slice (some ⟨gk, 0, none⟩) fn c5, .slice (some ⟨g3, 0, none⟩) bn (bn + 6)]) rfl (by kernel_rfl) (by kernel_rfl) (by kernel_rfl) (fun _ _ _ h => h) (fun L w => Iff.rfl) (Or.inl ⟨by rfl, fun w => by go_simp⟩) hSb (fun hS => ?_)
    simp only [List.getElem_toArray, List.getElem_cons_zero, List.getElem_cons_succ, Act.put, List.setIfInBounds_toArray, List.set_cons_zero, List.set_cons_succ]
    clear hSb
    have n43 : Hid (¬ g4 = g3) := fun e => by
      have h1 := k4x4.out
      have h2 := KBx4.out
      unfold Blk at h2
      rw [e, h2] at h1
      simp at h1
    refine till_one (i := 12) (by kernel_rfl) rfl (fun K hK => ?_)
    simp only [List.getElem_toArray, List.getElem_cons_zero, List.getElem_cons_succ]
    rw [if_pos (by rfl)]
    refine wp_store_row 46 (.tmp 4) (.tmp 25) (by rfl) g4 #[.int .i64 st, .slice (some ⟨gk, 0, none⟩) fn c5, .slice (some ⟨g3, 0, none⟩) bn (bn + 6)] (by rfl) (by rfl) 46 _ k4x4.out info46 (by rfl) (one46 _ _ _ _ _ _ _) ?_
    obtain ⟨y, Hy⟩ : ∃ u, Hid (x4.setRow g4 #[.int .i64 st, .slice (some ⟨gk, 0, none⟩) fn c5, .slice (some ⟨g3, 0, none⟩) bn (bn + 6)] = u) := ⟨_, rfl⟩
    have BY : Hid (Below w5.heap.size w5 y) := by rw [← Hy.out]; exact below_setRow BWx4.out lg4.out _
    have k4y : Hid (y.heap[g4]? = some (.cells #[.int .i64 st, .slice (some ⟨gk, 0, none⟩) fn c5, .slice (some ⟨g3, 0, none⟩) bn (bn + 6)] 46 (0, 0))) := by rw [← Hy.out]; exact setRow_heap _ _ _ _ _ _ k4x4.out
    have KBy : Hid (Blk y g3 (body ++ marks)) := by rw [← Hy.out]; exact (setRow_other _ _ _ _ (fun e => n43.out e.symm)).trans KBx4.out
    rw [Hy.out]
    refine hK.out _ _ BY.out (fun hSb => ?_)
    clear hK K
    try simp only [List.getElem_toArray, List.getElem_cons_zero, List.getElem_cons_succ, Act.put, List.setIfInBounds_toArray, List.set_cons_zero, List.set_cons_succ]
    clear hS
    refine till_done (by kernel_rfl) ?_ _
    clear hSb
    show (Exit.then _ _) .normal _ _
    have RY : Hid (Wb w y g1 st fa fn fc ba bn bc) := B5.out.below BY.out
    have IY : Hid (Wb w y g4 st (some ⟨gk, 0, none⟩) fn c5 (some ⟨g3, 0, none⟩) bn (bn + 6)) := ⟨⟨k4y.out, RY.out.b.bel, Nat.le_trans (bel_wb B5.out).size lg4.out⟩⟩
    have n13 : Hid (¬ g1 = g3) := fun e => by
      have h1 := RY.out.b.row
      have h2 := KBy.out
      unfold Blk at h2
      rw [e, h2] at h1
      simp at h1
    have nk3 : Hid (¬ gk = g3) := fun e => by
      have h1 := cell_lt KEPT.out
      have h2 := lg3.out
      rw [e] at h1
      exact absurd h1 (Nat.not_lt.2 h2)
    have F5 : Hid (Fw y (some ⟨gk, 0, none⟩) fn fs) := fw_pre (fw_rw (R5.out.below BY.out) (by omega) (fun f hf => by
      rcases List.mem_append.1 hf with hf | hf
      · exact hV.out f hf
      · rw [List.mem_singleton] at hf
        rw [hf]
        exact (by decide : kS.size ≤ 140737488355328)))
    have SI : Hid (Sln y (some ⟨g3, 0, none⟩) bn body) := blk_pre KBy.out BLT.out BL.out.symm (by rw [BL.out]; omega)
    obtain ⟨q0, q1, q2⟩ := IY.out.c
    go_upto_region 6 with (go_at_call 21; refine (write_n (fc := c5) (bc := bn + 6) F5 hfz (by omega) SI (fun h => by cases h) (ht.out.below (bel_wb RY.out)) h0 h1 hZ2).mono ?_; rintro e w8 ⟨a8, n8, c8, rfl, H8⟩)
    clear q0 q1 q2
    obtain ⟨g8, cur8, fr8, rfl, lg8, _, _, _, _, _⟩ := H8.out.1.row
    have n83 : Hid (¬ g8 = g3) := fun e => by
      have h1 := KBy.out.lt
      rw [e] at lg8
      exact absurd h1 (Nat.not_lt.2 lg8)
    have I8 : Hid (Iv w w8 g1 st fa fn fc ba bn bc g4 gk c5 g3 g8 n8 LL) := by
      refine ⟨RY.out.below H8.out.2, IY.out.below H8.out.2, ?_, ?_, n13.out, n43.out, n83.out, nk3.out, Nat.le_trans (bel_wb B5.out).size lg3.out⟩
      · have h := H8.out.1.sln (by rw [H8.out.1.len]; exact hZ2.out)
        rw [HLL.out] at h
        exact h
      · exact ((BY.out.trans (H8.out.2.mono BY.out.size)).cell (p := ⟨gk, fn * 2, none⟩) (cell_lt KEPT.out)).trans KEPT.out
    have K8 : Hid (Blk w8 g3 (body ++ marks)) := KBy.out.below H8.out.2 KBy.out.lt
    have LMK : Hid (bn + 6 = (body ++ marks).length) := (by rw [List.length_append, BL.out]; rfl : bn + 6 = (body ++ marks).length)
    have LML : Hid (∀ x ∈ body ++ marks, x < 256) := fun x hx => by
      rcases List.mem_append.1 hx with hx | hx
      · exact BLT.out x hx
      · have : ∀ x ∈ marks, x < 256 := by decide
        exact this x hx
    clear lg8 F5 SI
    obtain ⟨wz, HWz⟩ : ∃ wz, Hid (w8.drew = wz) := ⟨_, rfl⟩
    have DZ : Hid (Below w8.heap.size w8 wz) := by rw [← HWz.out]; exact (Below.refl _ _).drew
    have IZ : Hid (Iv w wz g1 st fa fn fc ba bn bc g4 gk c5 g3 g8 n8 LL) := I8.out.below DZ.out
    have KZ : Hid (Blk wz g3 (body ++ marks)) := K8.out.below DZ.out K8.out.lt
    refine wp_region_seq (C := fun W => Iv w W g1 st fa fn fc ba bn bc g4 gk c5 g3 g8 n8 LL) [(0, false), (1, false), (2, false), (3, true), (4, true), (5, false), (6, false), (7, false), (8, false), (9, false), (10, false), (11, false), (12, false), (13, false), (14, false), (15, false), (16, false), (17, false), (18, false), (19, true), (20, false), (21, false), (22, false), (23, false), (24, false), (25, true), (26, false), (27, false)] (by kernel_rfl) (by kernel_rfl) (by rw [HWz.out]; exact IZ.out) ?_
    refine seq_take (o := { dst := some 28, op := Go.Op.move (Go.Operand.tmp 5), type := 22, pos := "law.go:54", after := #[], guard := none }) (v := .slice (some ⟨g8, 0, none⟩) n8 c8) (by kernel_rfl) (fun _ _ _ h => h) (Or.inl ⟨by kernel_rfl, fun W hW => by go_simp⟩) ?_
    simp only [List.getElem_toArray, List.getElem_cons_zero, List.getElem_cons_succ, Act.put, List.setIfInBounds_toArray, List.set_cons_zero, List.set_cons_succ]
    refine seq_take (o := { dst := some 29, op := Go.Op.convert 22 9 (Go.Operand.tmp 28), type := 9, pos := "law.go:54", after := #[{ on := 0, ground := Go.Ground.data }], guard := none }) (v := .string (spell LL)) (by kernel_rfl) (fun _ _ _ h => h) (Or.inl ⟨by kernel_rfl, fun W hW => by have CV := conv_n (k := c8) (show Hid _ from hW.b); go_simp⟩) ?_
    simp only [List.getElem_toArray, List.getElem_cons_zero, List.getElem_cons_succ, Act.put, List.setIfInBounds_toArray, List.set_cons_zero, List.set_cons_succ]
    refine seq_take (o := { dst := some 30, op := Go.Op.load 46 (Go.Operand.tmp 1), type := 46, pos := "law.go:54", after := #[], guard := none }) (v := .agg #[.int .i64 st, .slice fa fn fc, .slice ba bn bc]) (by kernel_rfl) (fun _ _ _ h => h) (Or.inl ⟨by kernel_rfl, fun W hW => by obtain ⟨q0, q1, q2⟩ := hW.r.c; go_simp⟩) ?_
    simp only [List.getElem_toArray, List.getElem_cons_zero, List.getElem_cons_succ, Act.put, List.setIfInBounds_toArray, List.set_cons_zero, List.set_cons_succ]
    refine seq_call (o := { dst := some 31, op := Go.Op.call { callee := Go.Callee.value (Go.Operand.func 22), args := #[Go.Operand.tmp 30], argTypes := #[46] }, type := 22, pos := "law.go:54", after := #[{ on := 2, ground := Go.Ground.data }], guard := none }) (by kernel_rfl) (fun KK hK => ?_)
    rw [if_pos (by kernel_rfl)]
    rw [HWz.out]
    have FQ : Hid (Rq wz fa fn ba bn fs body) := hR.out.below (bel_wb IZ.out.r)
    go_wp2_with (go_at_call 22; refine (refwrite_n (fc := fc) (bc := bc) (show Hid _ from FQ.out.f) (show Hid _ from FQ.out.b) hbc h0 h1 hZ2).mono ?_; rintro e w9 ⟨a9, n9, c9, rfl, H9⟩)
    have I9 : Hid (Iv w w9 g1 st fa fn fc ba bn bc g4 gk c5 g3 g8 n8 LL) := IZ.out.below H9.out.2
    have K9 : Hid (Blk w9 g3 (body ++ marks)) := KZ.out.below H9.out.2 KZ.out.lt
    have S9 : Hid (Sln w9 a9 n9 LL) := by
      have h := H9.out.1.sln (by rw [H9.out.1.len]; exact hZ2.out)
      rw [HLL.out] at h
      exact h
    refine hK.out _ _ (I9.out) ?_
    clear hK KK
    try simp only [List.getElem_toArray, List.getElem_cons_zero, List.getElem_cons_succ, Act.put, List.setIfInBounds_toArray, List.set_cons_zero, List.set_cons_succ]
    refine seq_call (o := { dst := some 32, op := Go.Op.convert 22 9 (Go.Operand.tmp 31), type := 9, pos := "law.go:54", after := #[{ on := 3, ground := Go.Ground.data }], guard := none }) (by kernel_rfl) (fun KK hK => ?_)
    rw [if_pos (by kernel_rfl)]
    have CV := conv_n (k := c9) S9
    go_simp
    clear CV
    refine hK.out _ _ (I9.out) ?_
    clear hK KK
    try simp only [List.getElem_toArray, List.getElem_cons_zero, List.getElem_cons_succ, Act.put, List.setIfInBounds_toArray, List.set_cons_zero, List.set_cons_succ]
    refine seq_take (o := { dst := some 33, op := Go.Op.binOp Go.BinOp.eql 9 (Go.Operand.tmp 29) (Go.Operand.tmp 32) 9, type := 4, pos := "law.go:54", after := #[{ on := 1, ground := Go.Ground.data }, { on := 4, ground := Go.Ground.data }], guard := none }) (v := .bool true) (by kernel_rfl) (fun _ _ _ h => h) (Or.inl ⟨by kernel_rfl, fun W hW => by go_simp⟩) ?_
    simp only [List.getElem_toArray, List.getElem_cons_zero, List.getElem_cons_succ, Act.put, List.setIfInBounds_toArray, List.set_cons_zero, List.set_cons_succ]
    refine seq_take (o := { dst := some 34, op := Go.Op.move (Go.Operand.tmp 33), type := 4, pos := "law.go:54", after := #[{ on := 5, ground := Go.Ground.data }, { on := 3, ground := Go.Ground.chain }], guard := none }) (v := .bool true) (by kernel_rfl) (fun _ _ _ h => h) (Or.inl ⟨by kernel_rfl, fun W hW => by go_simp⟩) ?_
    simp only [List.getElem_toArray, List.getElem_cons_zero, List.getElem_cons_succ, Act.put, List.setIfInBounds_toArray, List.set_cons_zero, List.set_cons_succ]
    refine seq_take (o := { dst := some 35, op := Go.Op.move (Go.Operand.tmp 3), type := 25, pos := "law.go:54", after := #[{ on := 6, ground := Go.Ground.guard }], guard := some (6, true) }) (v := .slice (some ⟨gk, 0, none⟩) (fn + 1) c5) (by kernel_rfl) (fun _ _ _ h => h) (Or.inl ⟨by kernel_rfl, fun W hW => by go_simp⟩) ?_
    simp only [List.getElem_toArray, List.getElem_cons_zero, List.getElem_cons_succ, Act.put, List.setIfInBounds_toArray, List.set_cons_zero, List.set_cons_succ]
    refine seq_take (o := { dst := some 36, op := Go.Op.fieldAddr 46 (Go.Operand.tmp 1) 1, type := 0, pos := "law.go:54", after := #[{ on := 6, ground := Go.Ground.guard }], guard := some (6, true) }) (v := .pointer (some ⟨g1, 1, none⟩)) (by kernel_rfl) (fun _ _ _ h => h) (Or.inl ⟨by kernel_rfl, fun W hW => by go_simp⟩) ?_
    simp only [List.getElem_toArray, List.getElem_cons_zero, List.getElem_cons_succ, Act.put, List.setIfInBounds_toArray, List.set_cons_zero, List.set_cons_succ]
    refine seq_take (o := { dst := some 37, op := Go.Op.load 25 (Go.Operand.tmp 36), type := 25, pos := "law.go:54", after := #[{ on := 8, ground := Go.Ground.data }, { on := 6, ground := Go.Ground.guard }], guard := some (6, true) }) (v := .slice fa fn fc) (by kernel_rfl) (fun _ _ _ h => h) (Or.inl ⟨by kernel_rfl, fun W hW => by obtain ⟨q0, q1, q2⟩ := hW.r.c; go_simp⟩) ?_
    simp only [List.getElem_toArray, List.getElem_cons_zero, List.getElem_cons_succ, Act.put, List.setIfInBounds_toArray, List.set_cons_zero, List.set_cons_succ]
    refine seq_take (o := { dst := some 38, op := Go.Op.call { callee := Go.Callee.builtin Go.Builtin.len, args := #[Go.Operand.tmp 37], argTypes := #[25] }, type := 3, pos := "law.go:54", after := #[{ on := 9, ground := Go.Ground.data }, { on := 6, ground := Go.Ground.guard }], guard := some (6, true) }) (v := .int .i64 (fn : Int)) (by kernel_rfl) (fun _ _ _ h => h) (Or.inl ⟨by kernel_rfl, fun W hW => by go_simp⟩) ?_
    simp only [List.getElem_toArray, List.getElem_cons_zero, List.getElem_cons_succ, Act.put, List.setIfInBounds_toArray, List.set_cons_zero, List.set_cons_succ]
    refine seq_take (o := { dst := some 39, op := Go.Op.indexAddr 25 (Go.Operand.tmp 35) (Go.Operand.tmp 38), type := 0, pos := "law.go:54", after := #[{ on := 7, ground := Go.Ground.data }, { on := 10, ground := Go.Ground.data }, { on := 6, ground := Go.Ground.guard }], guard := some (6, true) }) (v := .pointer (some ⟨gk, fn * 2, none⟩)) (by kernel_rfl) (fun _ _ _ h => h) (Or.inl ⟨by kernel_rfl, fun W hW => by go_simp⟩) ?_
    simp only [List.getElem_toArray, List.getElem_cons_zero, List.getElem_cons_succ, Act.put, List.setIfInBounds_toArray, List.set_cons_zero, List.set_cons_succ]
    refine seq_take (o := { dst := some 40, op := Go.Op.fieldAddr 41 (Go.Operand.tmp 39) 0, type := 0, pos := "law.go:54", after := #[{ on := 11, ground := Go.Ground.data }, { on := 6, ground := Go.Ground.guard }], guard := some (6, true) }) (v := .pointer (some ⟨gk, fn * 2, none⟩)) (by kernel_rfl) (fun _ _ _ h => h) (Or.inl ⟨by kernel_rfl, fun W hW => by go_simp⟩) ?_
    simp only [List.getElem_toArray, List.getElem_cons_zero, List.getElem_cons_succ, Act.put, List.setIfInBounds_toArray, List.set_cons_zero, List.set_cons_succ]
    refine seq_take (o := { dst := some 41, op := Go.Op.load 9 (Go.Operand.tmp 40), type := 9, pos := "law.go:54", after := #[{ on := 12, ground := Go.Ground.data }, { on := 6, ground := Go.Ground.guard }], guard := some (6, true) }) (v := .string kS) (by kernel_rfl) (fun _ _ _ h => h) (Or.inl ⟨by kernel_rfl, fun W hW => by have k0 := hW.k; go_simp⟩) ?_
    simp only [List.getElem_toArray, List.getElem_cons_zero, List.getElem_cons_succ, Act.put, List.setIfInBounds_toArray, List.set_cons_zero, List.set_cons_succ]
    refine seq_take (o := { dst := some 42, op := Go.Op.binOp Go.BinOp.eql 9 (Go.Operand.tmp 41) (Go.Operand.const (Go.Value.string { data := #[107, 101, 112, 116] })) 9, type := 4, pos := "law.go:54", after := #[{ on := 13, ground := Go.Ground.data }, { on := 6, ground := Go.Ground.guard }], guard := some (6, true) }) (v := .bool true) (by kernel_rfl) (fun _ _ _ h => h) (Or.inl ⟨by kernel_rfl, fun W hW => by go_simp⟩) ?_
    simp only [List.getElem_toArray, List.getElem_cons_zero, List.getElem_cons_succ, Act.put, List.setIfInBounds_toArray, List.set_cons_zero, List.set_cons_succ]
    refine seq_take (o := { dst := some 43, op := Go.Op.pick (Go.Operand.tmp 34) (Go.Operand.tmp 42) (Go.Operand.const (Go.Value.bool false)), type := 4, pos := "law.go:54", after := #[{ on := 6, ground := Go.Ground.data }, { on := 14, ground := Go.Ground.data }], guard := none }) (v := .bool true) (by kernel_rfl) (fun _ _ _ h => h) (Or.inl ⟨by kernel_rfl, fun W hW => by go_simp⟩) ?_
    simp only [List.getElem_toArray, List.getElem_cons_zero, List.getElem_cons_succ, Act.put, List.setIfInBounds_toArray, List.set_cons_zero, List.set_cons_succ]
    refine seq_take (o := { dst := some 44, op := Go.Op.move (Go.Operand.tmp 43), type := 4, pos := "law.go:54", after := #[{ on := 15, ground := Go.Ground.data }, { on := 6, ground := Go.Ground.chain }], guard := none }) (v := .bool true) (by kernel_rfl) (fun _ _ _ h => h) (Or.inl ⟨by kernel_rfl, fun W hW => by go_simp⟩) ?_
    simp only [List.getElem_toArray, List.getElem_cons_zero, List.getElem_cons_succ, Act.put, List.setIfInBounds_toArray, List.set_cons_zero, List.set_cons_succ]
    refine seq_take (o := { dst := some 45, op := Go.Op.load 46 (Go.Operand.tmp 4), type := 46, pos := "law.go:54", after := #[{ on := 16, ground := Go.Ground.guard }], guard := some (16, true) }) (v := .agg #[.int .i64 st, .slice (some ⟨gk, 0, none⟩) fn c5, .slice (some ⟨g3, 0, none⟩) bn (bn + 6)]) (by kernel_rfl) (fun _ _ _ h => h) (Or.inl ⟨by kernel_rfl, fun W hW => by obtain ⟨q0, q1, q2⟩ := hW.i.c; go_simp⟩) ?_
    simp only [List.getElem_toArray, List.getElem_cons_zero, List.getElem_cons_succ, Act.put, List.setIfInBounds_toArray, List.set_cons_zero, List.set_cons_succ]
    refine seq_take (o := { dst := some 46, op := Go.Op.load 46 (Go.Operand.tmp 1), type := 46, pos := "law.go:54", after := #[{ on := 16, ground := Go.Ground.guard }], guard := some (16, true) }) (v := .agg #[.int .i64 st, .slice fa fn fc, .slice ba bn bc]) (by kernel_rfl) (fun _ _ _ h => h) (Or.inl ⟨by kernel_rfl, fun W hW => by obtain ⟨q0, q1, q2⟩ := hW.r.c; go_simp⟩) ?_
    simp only [List.getElem_toArray, List.getElem_cons_zero, List.getElem_cons_succ, Act.put, List.setIfInBounds_toArray, List.set_cons_zero, List.set_cons_succ]
    refine seq_call (o := { dst := some 47, op := Go.Op.call { callee := Go.Callee.value (Go.Operand.func 23), args := #[Go.Operand.tmp 45, Go.Operand.tmp 46], argTypes := #[46, 46] }, type := 4, pos := "law.go:54", after := #[{ on := 17, ground := Go.Ground.data }, { on := 18, ground := Go.Ground.data }, { on := 16, ground := Go.Ground.chain }, { on := 16, ground := Go.Ground.guard }], guard := some (16, true) }) (by kernel_rfl) (fun KK hK => ?_)
    rw [if_pos (by kernel_rfl)]
    have QR : Hid (Rq w9 fa fn ba bn fs body) := hR.out.below (bel_wb I9.out.r)
    have QI : Hid (Rq w9 (some ⟨gk, 0, none⟩) fn (some ⟨g3, 0, none⟩) bn fs body) := by
      have hb9 : Below w5.heap.size w5 w9 := BY.out.trans ((H8.out.2.trans ((DZ.out.mono H8.out.2.size).trans (H9.out.2.mono (DZ.out.mono H8.out.2.size |>.size |> Nat.le_trans H8.out.2.size)))).mono BY.out.size)
      refine ⟨fw_pre (f := kF) (fw_rw (R5.out.below hb9) (by omega) (fun f hf => ?_)), blk_pre K9.out BLT.out BL.out.symm (by rw [BL.out]; omega)⟩
      rcases List.mem_append.1 hf with hf | hf
      · exact hV.out f hf
      · rw [List.mem_singleton] at hf
        rw [hf]
        exact (by decide : kS.size ≤ 140737488355328)
    go_wp2_with (go_at_call 23; refine (sameresp_n (fc := c5) (fc' := fc) (bc := bn + 6) (bc' := bc) QI QR).mono ?_; rintro e wa ⟨rfl, DA⟩)
    have IA : Hid (Iv w wa g1 st fa fn fc ba bn bc g4 gk c5 g3 g8 n8 LL) := I9.out.below DA.out
    have KA : Hid (Blk wa g3 (body ++ marks)) := K9.out.below DA.out K9.out.lt
    refine hK.out _ _ (IA.out) ?_
    clear hK KK
    try simp only [List.getElem_toArray, List.getElem_cons_zero, List.getElem_cons_succ, Act.put, List.setIfInBounds_toArray, List.set_cons_zero, List.set_cons_succ]
    refine seq_take (o := { dst := some 48, op := Go.Op.pick (Go.Operand.tmp 44) (Go.Operand.tmp 47) (Go.Operand.const (Go.Value.bool false)), type := 4, pos := "law.go:54", after := #[{ on := 16, ground := Go.Ground.data }, { on := 19, ground := Go.Ground.data }], guard := none }) (v := .bool true) (by kernel_rfl) (fun _ _ _ h => h) (Or.inl ⟨by kernel_rfl, fun W hW => by go_simp⟩) ?_
    simp only [List.getElem_toArray, List.getElem_cons_zero, List.getElem_cons_succ, Act.put, List.setIfInBounds_toArray, List.set_cons_zero, List.set_cons_succ]
    refine seq_take (o := { dst := some 49, op := Go.Op.move (Go.Operand.tmp 48), type := 4, pos := "law.go:54", after := #[{ on := 20, ground := Go.Ground.data }, { on := 19, ground := Go.Ground.chain }], guard := none }) (v := .bool true) (by kernel_rfl) (fun _ _ _ h => h) (Or.inl ⟨by kernel_rfl, fun W hW => by go_simp⟩) ?_
    simp only [List.getElem_toArray, List.getElem_cons_zero, List.getElem_cons_succ, Act.put, List.setIfInBounds_toArray, List.set_cons_zero, List.set_cons_succ]
    refine seq_take (o := { dst := some 50, op := Go.Op.move (Go.Operand.tmp 5), type := 22, pos := "law.go:54", after := #[{ on := 21, ground := Go.Ground.guard }], guard := some (21, true) }) (v := .slice (some ⟨g8, 0, none⟩) n8 c8) (by kernel_rfl) (fun _ _ _ h => h) (Or.inl ⟨by kernel_rfl, fun W hW => by go_simp⟩) ?_
    simp only [List.getElem_toArray, List.getElem_cons_zero, List.getElem_cons_succ, Act.put, List.setIfInBounds_toArray, List.set_cons_zero, List.set_cons_succ]
    refine seq_take (o := { dst := some 51, op := Go.Op.fieldAddr 46 (Go.Operand.tmp 4) 2, type := 0, pos := "law.go:54", after := #[{ on := 21, ground := Go.Ground.guard }], guard := some (21, true) }) (v := .pointer (some ⟨g4, 2, none⟩)) (by kernel_rfl) (fun _ _ _ h => h) (Or.inl ⟨by kernel_rfl, fun W hW => by go_simp⟩) ?_
    simp only [List.getElem_toArray, List.getElem_cons_zero, List.getElem_cons_succ, Act.put, List.setIfInBounds_toArray, List.set_cons_zero, List.set_cons_succ]
    refine seq_take (o := { dst := some 52, op := Go.Op.load 22 (Go.Operand.tmp 51), type := 22, pos := "law.go:54", after := #[{ on := 23, ground := Go.Ground.data }, { on := 21, ground := Go.Ground.guard }], guard := some (21, true) }) (v := .slice (some ⟨g3, 0, none⟩) bn (bn + 6)) (by kernel_rfl) (fun _ _ _ h => h) (Or.inl ⟨by kernel_rfl, fun W hW => by obtain ⟨q0, q1, q2⟩ := hW.i.c; go_simp⟩) ?_
    simp only [List.getElem_toArray, List.getElem_cons_zero, List.getElem_cons_succ, Act.put, List.setIfInBounds_toArray, List.set_cons_zero, List.set_cons_succ]
    refine seq_call (o := { dst := some 53, op := Go.Op.call { callee := Go.Callee.value (Go.Operand.func 16), args := #[Go.Operand.tmp 50, Go.Operand.tmp 52], argTypes := #[22, 22] }, type := 4, pos := "law.go:54", after := #[{ on := 22, ground := Go.Ground.data }, { on := 24, ground := Go.Ground.data }, { on := 21, ground := Go.Ground.chain }, { on := 21, ground := Go.Ground.guard }], guard := some (21, true) }) (by kernel_rfl) (fun KK hK => ?_)
    rw [if_pos (by kernel_rfl)]
    go_wp2_with (go_at_call 16; refine (apart_n (ka := c8) (show Hid _ from IA.out.b) KA LML LMK bnz (show Hid _ from IA.out.ne.2.2.1)).mono ?_; rintro e wb ⟨rfl, TB⟩)
    have IB : Hid (Iv w wb g1 st fa fn fc ba bn bc g4 gk c5 g3 g8 n8 LL) := IA.out.turned TB.out
    refine hK.out _ _ (IB.out) ?_
    clear hK KK
    try simp only [List.getElem_toArray, List.getElem_cons_zero, List.getElem_cons_succ, Act.put, List.setIfInBounds_toArray, List.set_cons_zero, List.set_cons_succ]
    refine seq_take (o := { dst := some 54, op := Go.Op.pick (Go.Operand.tmp 49) (Go.Operand.tmp 53) (Go.Operand.const (Go.Value.bool false)), type := 4, pos := "law.go:54", after := #[{ on := 21, ground := Go.Ground.data }, { on := 25, ground := Go.Ground.data }], guard := none }) (v := .bool true) (by kernel_rfl) (fun _ _ _ h => h) (Or.inl ⟨by kernel_rfl, fun W hW => by go_simp⟩) ?_
    simp only [List.getElem_toArray, List.getElem_cons_zero, List.getElem_cons_succ, Act.put, List.setIfInBounds_toArray, List.set_cons_zero, List.set_cons_succ]
    refine seq_take (o := { dst := some 2, op := Go.Op.assign (Go.Operand.tmp 54), type := 4, pos := "law.go:54", after := #[{ on := 26, ground := Go.Ground.data }, { on := 25, ground := Go.Ground.chain }, { on := 0, ground := Go.Ground.phase }, { on := 1, ground := Go.Ground.phase }, { on := 2, ground := Go.Ground.phase }, { on := 3, ground := Go.Ground.phase }, { on := 4, ground := Go.Ground.phase }, { on := 5, ground := Go.Ground.phase }, { on := 6, ground := Go.Ground.phase }, { on := 7, ground := Go.Ground.phase }, { on := 8, ground := Go.Ground.phase }, { on := 9, ground := Go.Ground.phase }, { on := 10, ground := Go.Ground.phase }, { on := 11, ground := Go.Ground.phase }, { on := 12, ground := Go.Ground.phase }, { on := 13, ground := Go.Ground.phase }, { on := 14, ground := Go.Ground.phase }, { on := 15, ground := Go.Ground.phase }, { on := 16, ground := Go.Ground.phase }, { on := 17, ground := Go.Ground.phase }, { on := 18, ground := Go.Ground.phase }, { on := 19, ground := Go.Ground.phase }, { on := 20, ground := Go.Ground.phase }, { on := 21, ground := Go.Ground.phase }, { on := 22, ground := Go.Ground.phase }, { on := 23, ground := Go.Ground.phase }, { on := 24, ground := Go.Ground.phase }, { on := 25, ground := Go.Ground.phase }, { on := 26, ground := Go.Ground.phase }], guard := none }) (v := .bool true) (by kernel_rfl) (fun _ _ _ h => h) (Or.inl ⟨by kernel_rfl, fun W hW => by go_simp⟩) ?_
    simp only [List.getElem_toArray, List.getElem_cons_zero, List.getElem_cons_succ, Act.put, List.setIfInBounds_toArray, List.set_cons_zero, List.set_cons_succ]
    show (Exit.then _ _) .normal _ _
    go_wp2
    go_ret
    exact ⟨rfl, bel_wb IB.out.r⟩
end Go.Proofs.YtemhhlongfabmaaGreatDoor
