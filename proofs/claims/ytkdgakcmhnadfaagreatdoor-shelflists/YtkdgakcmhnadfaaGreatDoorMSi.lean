import Derived.Test.YtkdgakcmhnadfaaGreatDoorMSg
import Derived.Deep.Cut
/- Si -/
/- What a Hash's Sum does to a machine, for all hashes: it returns the digest of what the hash was given, and changes nothing that was there. -/
namespace Go.Proofs.YtkdgakcmhnadfaaGreatDoor
open Go.ChangeShapes Go.WideShapes Go.ChangeAt Go.RowKit
set_option linter.unusedVariables false
set_option linter.unusedSimpArgs false
theorem yieldsIf_ld {ops : Array Oper} {S : World → Prop} {o : Oper} {a : Act} {k : IntKind} {g off : Nat} {l : List Nat} (hw : Region.wanted o (yielded ops a.tmps) = true) (ty : TypeId) (x : Operand) (ho : o.op = .load ty x)
    (hx : a.eval x = .pointer (some ⟨g, off, none⟩)) (hS : ∀ w, S w → Rng k w g off l) (hu : ∃ d, Tryz.prog.underlying ty = some d ∧ d.isRow = true) (hi : (Tryz.prog.info? ty).map (·.size) = some l.length) : YieldsIf Tryz.prog ops S o (.agg (cs k l)) a := by
  obtain ⟨d, h1, h2⟩ := hu
  exact yieldsIf_load_mid hw ty x ho g off hx (l.map (wv k)) d hS h1 h2 (by rw [hi]; simp)
theorem wp_st {o : Oper} {a : Act} {K : Act → World → Prop} {Q : Exit → Act → World → Prop} {w : World} {k : IntKind} {t : TypeId} {g : Nat} {l l2 : List Nat} (hd : o.dst = none) (ty : TypeId) (x y : Operand)
    (ho : o.op = .store ty x y) (hx : a.eval x = .pointer (some ⟨g, 0, none⟩)) (hy : a.eval y = .agg (cs k l2)) (hr : Arr k t w g l) (hi : (Tryz.prog.info? ty).map (·.size) = some l2.length) (hl : l.length = l2.length)
    (h : K a (w.setRow g (cs k l2))) : o.wp Tryz.prog a w K Q :=
  wp_store_row ty x y ho g (cs k l2) hx hy t (cs k l) hr (by rw [hi, cs_size]) (by rw [cs_size, cs_size, hl]) (cs_one _ _) (by rw [hd]; exact h)
theorem Hsh.alloc {w : World} {g n : Nat} {ws rs : List Nat} (h : Hsh w g ws rs n) (o : Obj) : Hsh (w.alloc o) g ws rs n := ⟨(Below.heap_alloc w o g h.lt).trans h.blk, h.l1, h.l2⟩
/- what stands while the message is ended -/
structure Sm (w wr : World) (g g3 g4 : Nat) (A ws bs : List Nat) : Prop where
  st : Arr .u32 237 wr g3 ws
  bl : Arr .u8 240 wr g4 bs
  out : Arr .u8 89 wr w.heap.size Zb32
  ne : g3 ≠ g4
  lt3 : w.heap.size < g3
  lt4 : w.heap.size < g4
  bel : Below w.heap.size w wr
structure Sn (w wr : World) (g3 g4 : Nat) (ws bs : List Nat) : Prop where
  st : Arr .u32 237 wr g3 ws
  bl : Arr .u8 240 wr g4 bs
  bel : Below w.heap.size w wr
theorem Sm.sn {w wr : World} {g g3 g4 : Nat} {A ws bs : List Nat} (h : Sm w wr g g3 g4 A ws bs) : Sn w wr g3 g4 ws bs := ⟨h.st, h.bl, h.bel⟩
theorem Sm.putO {w wr : World} {g g3 g4 : Nat} {A ws bs : List Nat} (h : Sm w wr g g3 g4 A ws bs) (d : List Nat) : Sn w (wr.setRow w.heap.size (cs .u8 d)) g3 g4 ws bs := by
  have o : Oth w.heap.size wr (wr.setRow w.heap.size (cs .u8 d)) := Oth.setRow _
  have h3 := h.lt3
  have h4 := h.lt4
  exact ⟨h.st.oth o (by omega), h.bl.oth o (by omega), o.below h.bel (Nat.le_refl _)⟩
theorem Sm.drewN {w wr : World} {g g3 g4 : Nat} {A ws bs : List Nat} (h : Sm w wr g g3 g4 A ws bs) (n : Nat) : Sm w (wr.drewN n) g g3 g4 A ws bs := ⟨h.st, h.bl, h.out, h.ne, h.lt3, h.lt4, ⟨h.bel.os, h.bel.tape, h.bel.output, h.bel.size, h.bel.block⟩⟩
theorem Sm.below {w wr w' : World} {g g3 g4 : Nat} {A ws bs : List Nat} (h : Sm w wr g g3 g4 A ws bs) (hb : Below wr.heap.size wr w') : Sm w w' g g3 g4 A ws bs :=
  ⟨h.st.below hb h.st.lt, h.bl.below hb h.bl.lt, h.out.below hb h.out.lt, h.ne, h.lt3, h.lt4, h.bel.trans (hb.mono h.bel.size)⟩
theorem Sm.setB {w wr : World} {g g3 g4 : Nat} {A ws bs : List Nat} (h : Sm w wr g g3 g4 A ws bs) (i x : Nat) : Sm w (wr.setCell ⟨g4, i, none⟩ (.int .u8 (x : Int))) g g3 g4 A ws (bs.set i x) := by
  have o : Oth g4 wr (wr.setCell ⟨g4, i, none⟩ (.int .u8 (x : Int))) := (Oth.refl _ wr).setCell i _
  have h4 := h.lt4
  exact ⟨h.st.oth o h.ne, h.bl.set i x, h.out.oth o (by omega), h.ne, h.lt3, h.lt4, o.below h.bel (by omega)⟩
theorem Sm.putB {w wr : World} {g g3 g4 : Nat} {A ws bs : List Nat} (h : Sm w wr g g3 g4 A ws bs) (b2 : List Nat) : Sm w (wr.setRow g4 (cs .u8 b2)) g g3 g4 A ws b2 := by
  have o : Oth g4 wr (wr.setRow g4 (cs .u8 b2)) := Oth.setRow _
  have h4 := h.lt4
  exact ⟨h.st.oth o h.ne, h.bl.setRow b2, h.out.oth o (by omega), h.ne, h.lt3, h.lt4, o.below h.bel (by omega)⟩
theorem Sm.putW {w wr : World} {g g3 g4 : Nat} {A ws bs : List Nat} (h : Sm w wr g g3 g4 A ws bs) (w2 : List Nat) : Sm w (wr.setRow g3 (cs .u32 w2)) g g3 g4 A w2 bs := by
  have o : Oth g3 wr (wr.setRow g3 (cs .u32 w2)) := Oth.setRow _
  have h3 := h.lt3
  exact ⟨h.st.setRow w2, h.bl.oth o (fun e => h.ne e.symm), h.out.oth o (by omega), h.ne, h.lt3, h.lt4, o.below h.bel (by omega)⟩
theorem HS.below {w w' : World} {g : Nat} {A : List Nat} (h : HS w g A) (hb : Below w.heap.size w w') : HS w' g A := ⟨h.h.below hb h.h.lt, h.lt⟩
theorem countN_lt {b : List Nat} (h : ∀ x ∈ b, x < 256) (c n : Nat) : ∀ x ∈ Gs.countN b c n, x < 256 := by
  induction n with
  | zero => exact h
  | succ n ih =>
    intro x hx
    rcases List.mem_or_eq_of_mem_set hx with h1 | h1
    · exact ih x h1
    · rw [h1]; exact Nat.mod_lt _ (by decide)
theorem counting_length {b : List Nat} (h : b.length = 64) (n : Nat) : (Gs.counting b n).length = 64 := by unfold Gs.counting; rw [countN_length, h]
theorem shset_lt {b : List Nat} (h : ∀ x ∈ b, x < 256) (i y : Nat) (hy : y < 256) : ∀ x ∈ b.set i y, x < 256 := by
  intro x hx
  rcases List.mem_or_eq_of_mem_set hx with h1 | h1
  · exact h x h1
  · omega
theorem digest_length (s : List Nat) : (Gs.digest s).length = 32 := digestN_length s 8
/- the Hash's two variables, in whichever order they were made -/
theorem sm_first {w w0 : World} {g : Nat} {A ws bs : List Nat} (hb : Below w.heap.size w w0) (h0 : Arr .u8 89 w0 w.heap.size Zb32) :
    Sm w ((((w0.alloc (.cells (cs .u32 Z8) 237)).alloc (.cells (cs .u8 Zb64) 240)).setRow w0.heap.size (cs .u32 ws)).setRow (w0.heap.size + 1) (cs .u8 bs)) g w0.heap.size (w0.heap.size + 1) A ws bs := by
  have hc := below2 w0 (.cells (cs .u32 Z8) 237) (.cells (cs .u8 Zb64) 240)
  obtain ⟨t1, t2⟩ := two w0 (.cells (cs .u32 Z8) 237) (.cells (cs .u8 Zb64) 240)
  have hl := h0.lt
  have h1 : Sm w ((w0.alloc (.cells (cs .u32 Z8) 237)).alloc (.cells (cs .u8 Zb64) 240)) g w0.heap.size (w0.heap.size + 1) A Z8 Zb64 :=
    ⟨t1, t2, h0.below hc hl, by omega, by omega, by omega, hb.trans (hc.mono (by omega))⟩
  exact (h1.putW ws).putB bs
theorem sm_second {w w0 : World} {g : Nat} {A ws bs : List Nat} (hb : Below w.heap.size w w0) (h0 : Arr .u8 89 w0 w.heap.size Zb32) :
    Sm w ((((w0.alloc (.cells (cs .u8 Zb64) 240)).alloc (.cells (cs .u32 Z8) 237)).setRow (w0.heap.size + 1) (cs .u32 ws)).setRow w0.heap.size (cs .u8 bs)) g (w0.heap.size + 1) w0.heap.size A ws bs := by
  have hc := below2 w0 (.cells (cs .u8 Zb64) 240) (.cells (cs .u32 Z8) 237)
  obtain ⟨t1, t2⟩ := two w0 (.cells (cs .u8 Zb64) 240) (.cells (cs .u32 Z8) 237)
  have hl := h0.lt
  have h1 : Sm w ((w0.alloc (.cells (cs .u8 Zb64) 240)).alloc (.cells (cs .u32 Z8) 237)) g (w0.heap.size + 1) w0.heap.size A Z8 Zb64 :=
    ⟨t2, t1, h0.below hc hl, by omega, by omega, by omega, hb.trans (hc.mono (by omega))⟩
  exact (h1.putW ws).putB bs
set_option maxRecDepth 20000 in
set_option maxHeartbeats 4000000 in
theorem hsum_n (w : World) (g : Nat) (A : List Nat) (hH : Hid (HS w g A)) (hKs : Hid (Kst w)) (h0 : Hid (21 < w.heap.size)) (hlen : Hid (A.length < 4611686018427387904)) :
    Calls Tryz.prog 150 #[.pointer (some ⟨g, 0, none⟩)] w fun e w' => ∃ d, e = .returned (.agg (cs .u8 d)) ∧ Hid (d = Gs.sum A ∧ Below w.heap.size w w') := by
  obtain ⟨ws, WS⟩ : ∃ ws, Hid (Gs.words A = ws) := ⟨_, rfl⟩
  obtain ⟨rs, RS⟩ : ∃ rs, Hid (Gs.rest A = rs) := ⟨_, rfl⟩
  obtain ⟨N, HN⟩ : ∃ N, Hid (A.length = N) := ⟨_, rfl⟩
  have LW : Hid (ws.length = 8) := by rw [← WS.out]; exact words_length _
  have LR : Hid (rs.length = 64) := by rw [← RS.out]; exact rest_length _
  have HD : Hid (Hsh ((w.alloc (.cells (cs .u8 Zb32) 89)).drewN 1) g ws rs N) := by
    have := hH.out.h
    rw [WS.out, RS.out, HN.out] at this
    exact (this.alloc _).drewN 1
  go_enter Tryz.func150, Tryz.ntmps150
  go_upto_region 1 with (fail)
  go_cut [3, 4] from 6 (fun t3 t4 wc => ∃ g3 g4 : Nat, t3 = .pointer (some ⟨g3, 0, none⟩) ∧ t4 = .pointer (some ⟨g4, 0, none⟩) ∧ Hid (Sm w wc g g3 g4 A ws rs))
  case first =>
    refine wp_region_held (S := fun w' => Hsh w' g ws rs N) (by kernel_rfl) ?_
    have hS0 : Hsh ((w.alloc (.cells (cs .u8 Zb32) 89)).drewN 1) g ws rs N := HD.out
    have hB0 : Hid (Below w.heap.size w ((w.alloc (.cells (cs .u8 Zb32) 89)).drewN 1) ∧ Arr .u8 89 ((w.alloc (.cells (cs .u8 Zb32) 89)).drewN 1) w.heap.size Zb32) := ⟨below_drewN ((Below.refl _ _).alloc (Nat.le_refl _) _) 1, (Arr.new w .u8 89 Zb32).drewN 1⟩
    generalize hw0 : (w.alloc (.cells (cs .u8 Zb32) 89)).drewN 1 = w0 at hS0 hB0
    have hw1 : ({ heap := (w.alloc (.cells (cs .u8 Zb32) 89)).heap, tape := (w.alloc (.cells (cs .u8 Zb32) 89)).tape, drawn := (w.alloc (.cells (cs .u8 Zb32) 89)).drawn + 1, os := (w.alloc (.cells (cs .u8 Zb32) 89)).os, output := (w.alloc (.cells (cs .u8 Zb32) 89)).output } : World) = w0 := hw0
    refine (show _ = w0 from hw1) ▸ ?_
    refine wpAnyH_take (i := 0) (v := .pointer (some ⟨g, 0, none⟩)) rfl (by kernel_rfl) (by kernel_rfl) (by kernel_rfl) (fun _ _ _ h => h) (Or.inl ⟨by rfl, fun w hSw => by clear hSw; go_simp⟩) (by assumption) ?_
    simp only [List.getElem_toArray, List.getElem_cons_zero, List.getElem_cons_succ, Act.put, List.setIfInBounds_toArray, List.set_cons_zero, List.set_cons_succ]
    refine wpAnyH_take (i := 1) (v := .pointer (some ⟨g, 0, none⟩)) rfl (by kernel_rfl) (by kernel_rfl) (by kernel_rfl) (fun _ _ _ h => h) (Or.inl ⟨by rfl, fun w hSw => by clear hSw; go_simp⟩) (by assumption) ?_
    simp only [List.getElem_toArray, List.getElem_cons_zero, List.getElem_cons_succ, Act.put, List.setIfInBounds_toArray, List.set_cons_zero, List.set_cons_succ]
    refine wpAnyH_take (i := 2) (v := .pointer (some ⟨g, 0, none⟩)) rfl (by kernel_rfl) (by kernel_rfl) (by kernel_rfl) (fun _ _ _ h => h) (Or.inl ⟨by rfl, fun w hSw => by clear hSw; go_simp⟩) (by assumption) ?_
    simp only [List.getElem_toArray, List.getElem_cons_zero, List.getElem_cons_succ, Act.put, List.setIfInBounds_toArray, List.set_cons_zero, List.set_cons_succ]
    refine wpAnyH_take (i := 3) (v := .agg (cs .u32 ws)) rfl (by kernel_rfl) (by kernel_rfl) (by kernel_rfl) (fun _ _ _ h => h) (yieldsIf_ld (by rfl) 237 (.tmp 8) (by rfl) (by rfl) (fun w' h' => h'.wsR) und53 (by rw [LW.out]; exact sz53)) (by assumption) ?_
    simp only [List.getElem_toArray, List.getElem_cons_zero, List.getElem_cons_succ, Act.put, List.setIfInBounds_toArray, List.set_cons_zero, List.set_cons_succ]
    refine wpAnyH_take (i := 4) (v := .pointer (some ⟨g, 0, none⟩)) rfl (by kernel_rfl) (by kernel_rfl) (by kernel_rfl) (fun _ _ _ h => h) (Or.inl ⟨by rfl, fun w hSw => by clear hSw; go_simp⟩) (by assumption) ?_
    simp only [List.getElem_toArray, List.getElem_cons_zero, List.getElem_cons_succ, Act.put, List.setIfInBounds_toArray, List.set_cons_zero, List.set_cons_succ]
    refine wpAnyH_take (i := 5) (v := .pointer (some ⟨g, 0, none⟩)) rfl (by kernel_rfl) (by kernel_rfl) (by kernel_rfl) (fun _ _ _ h => h) (Or.inl ⟨by rfl, fun w hSw => by clear hSw; go_simp⟩) (by assumption) ?_
    simp only [List.getElem_toArray, List.getElem_cons_zero, List.getElem_cons_succ, Act.put, List.setIfInBounds_toArray, List.set_cons_zero, List.set_cons_succ]
    refine wpAnyH_take (i := 6) (v := .pointer (some ⟨g, 8, none⟩)) rfl (by kernel_rfl) (by kernel_rfl) (by kernel_rfl) (fun _ _ _ h => h) (Or.inl ⟨by rfl, fun w hSw => by clear hSw; go_simp⟩) (by assumption) ?_
    simp only [List.getElem_toArray, List.getElem_cons_zero, List.getElem_cons_succ, Act.put, List.setIfInBounds_toArray, List.set_cons_zero, List.set_cons_succ]
    refine wpAnyH_take (i := 7) (v := .agg (cs .u8 rs)) rfl (by kernel_rfl) (by kernel_rfl) (by kernel_rfl) (fun _ _ _ h => h) (yieldsIf_ld (by rfl) 240 (.tmp 12) (by rfl) (by rfl) (fun w' h' => h'.rsR) und56 (by rw [LR.out]; exact sz56)) (by assumption) ?_
    simp only [List.getElem_toArray, List.getElem_cons_zero, List.getElem_cons_succ, Act.put, List.setIfInBounds_toArray, List.set_cons_zero, List.set_cons_succ]
    refine wpAnyH_ready (rs := [8, 9]) (by kernel_rfl) (by simp) (AllReadyH.cons rfl (fun K hK => ?_) (AllReadyH.cons rfl (fun K hK => ?_) AllReadyH.nil))
    · simp only [List.getElem_toArray, List.getElem_cons_zero, List.getElem_cons_succ]
      rw [if_pos (by rfl)]
      go_simp
      refine hK.out _ _ ?_ (fun hS1 => ?_)
      · exact Hsh.alloc (by assumption) _
      clear hK K
      refine wpAnyH_ready (rs := [9]) (by kernel_rfl) (by simp) (AllReadyH.cons rfl (fun K hK => ?_) AllReadyH.nil)
      simp only [List.getElem_toArray, List.getElem_cons_zero, List.getElem_cons_succ]
      rw [if_pos (by rfl)]
      go_simp
      refine hK.out _ _ ?_ (fun hS1 => ?_)
      · exact Hsh.alloc (by assumption) _
      clear hK K
      refine wpAnyH_ready (rs := [10]) (by kernel_rfl) (by simp) (AllReadyH.cons rfl (fun K hK => ?_) AllReadyH.nil)
      simp only [List.getElem_toArray, List.getElem_cons_zero, List.getElem_cons_succ]
      rw [if_pos (by rfl)]
      refine wp_st (k := .u32) (t := 237) (l := Z8) (l2 := ws) (by rfl) 237 (.tmp 3) (.tmp 9) (by rfl) (by rfl) (by rfl) (two w0 (.cells (cs .u32 Z8) 237) (.cells (cs .u8 Zb64) 240)).1 (by rw [LW.out]; exact sz53) (by rw [LW.out]; rfl) ?_
      refine hK.out _ _ ?_ (fun hS10 => ?_)
      · exact Hsh.oth (by assumption) (Oth.setRow _) (by have := hS0.lt; omega)
      clear hK K
      refine wpAnyH_ready (rs := [11]) (by kernel_rfl) (by simp) (AllReadyH.cons rfl (fun K hK => ?_) AllReadyH.nil)
      simp only [List.getElem_toArray, List.getElem_cons_zero, List.getElem_cons_succ]
      rw [if_pos (by rfl)]
      refine wp_st (k := .u8) (t := 240) (l := Zb64) (l2 := rs) (by rfl) 240 (.tmp 4) (.tmp 13) (by rfl) (by rfl) (by rfl) (Arr.setRow_ne (k := .u8) (t := 240) (l := Zb64) (two w0 (.cells (cs .u32 Z8) 237) (.cells (cs .u8 Zb64) 240)).2 _ (by omega)) (by rw [LR.out]; exact sz56) (by rw [LR.out]; rfl) ?_
      refine hK.out _ _ ?_ (fun hS11 => ?_)
      · exact Hsh.oth (by assumption) (Oth.setRow _) (by have := hS0.lt; omega)
      clear hK K
      refine wpAnyH_done (by kernel_rfl) ?_ _
      go_wp2
      go_meet
      case rel => exact ⟨_, _, rfl, rfl, sm_first hB0.out.1 hB0.out.2⟩
    · simp only [List.getElem_toArray, List.getElem_cons_zero, List.getElem_cons_succ]
      rw [if_pos (by rfl)]
      go_simp
      refine hK.out _ _ ?_ (fun hS1 => ?_)
      · exact Hsh.alloc (by assumption) _
      clear hK K
      refine wpAnyH_ready (rs := [8]) (by kernel_rfl) (by simp) (AllReadyH.cons rfl (fun K hK => ?_) AllReadyH.nil)
      simp only [List.getElem_toArray, List.getElem_cons_zero, List.getElem_cons_succ]
      rw [if_pos (by rfl)]
      go_simp
      refine hK.out _ _ ?_ (fun hS1 => ?_)
      · exact Hsh.alloc (by assumption) _
      clear hK K
      refine wpAnyH_ready (rs := [10]) (by kernel_rfl) (by simp) (AllReadyH.cons rfl (fun K hK => ?_) AllReadyH.nil)
      simp only [List.getElem_toArray, List.getElem_cons_zero, List.getElem_cons_succ]
      rw [if_pos (by rfl)]
      refine wp_st (k := .u32) (t := 237) (l := Z8) (l2 := ws) (by rfl) 237 (.tmp 3) (.tmp 9) (by rfl) (by rfl) (by rfl) (two w0 (.cells (cs .u8 Zb64) 240) (.cells (cs .u32 Z8) 237)).2 (by rw [LW.out]; exact sz53) (by rw [LW.out]; rfl) ?_
      refine hK.out _ _ ?_ (fun hS10 => ?_)
      · exact Hsh.oth (by assumption) (Oth.setRow _) (by have := hS0.lt; omega)
      clear hK K
      refine wpAnyH_ready (rs := [11]) (by kernel_rfl) (by simp) (AllReadyH.cons rfl (fun K hK => ?_) AllReadyH.nil)
      simp only [List.getElem_toArray, List.getElem_cons_zero, List.getElem_cons_succ]
      rw [if_pos (by rfl)]
      refine wp_st (k := .u8) (t := 240) (l := Zb64) (l2 := rs) (by rfl) 240 (.tmp 4) (.tmp 13) (by rfl) (by rfl) (by rfl) (Arr.setRow_ne (k := .u8) (t := 240) (l := Zb64) (two w0 (.cells (cs .u8 Zb64) 240) (.cells (cs .u32 Z8) 237)).1 _ (by omega)) (by rw [LR.out]; exact sz56) (by rw [LR.out]; rfl) ?_
      refine hK.out _ _ ?_ (fun hS11 => ?_)
      · exact Hsh.oth (by assumption) (Oth.setRow _) (by have := hS0.lt; omega)
      clear hK K
      refine wpAnyH_done (by kernel_rfl) ?_ _
      go_wp2
      go_meet
      case rel => exact ⟨_, _, rfl, rfl, sm_second hB0.out.1 hB0.out.2⟩
  case rest =>
    obtain ⟨g3, g4, rfl, rfl, HM⟩ := hcut
    have c72 : wc.cell? ⟨g, 72, none⟩ = some (.int .i64 (N : Int)) := by rw [← HN.out]; exact (hH.out.below HM.out.bel).h.len
    have N63 : Hid (N < 9223372036854775808) := by
      have h9 : N < 9223372036854775808 := by have := hlen.out; rw [HN.out] at this; omega
      exact h9
    obtain ⟨r, hr⟩ : ∃ r, r = N % 64 := ⟨_, rfl⟩
    have hr1 : (N : Int) % 64 = (r : Int) := by omega
    have hr3 : Int.tmod (N : Int) 64 = (r : Int) := by rw [Int.tmod_eq_emod_of_nonneg (by omega)]; exact hr1
    have hr2 : r < 64 := by omega
    have i2 : (0 : Int) ≤ (r : Int) := by omega
    have i3 : (r : Int) < 64 := by omega
    have HR : Hid (r = A.length % 64) := by rw [HN.out]; exact hr
    clear hr
    have A0 : Hid (Arr .u8 240 wc g4 rs) := HM.out.bl
    obtain ⟨bs, BS⟩ : ∃ bs, Hid (rs.set r 128 = bs) := ⟨_, rfl⟩
    have LB : Hid (bs.length = 64) := by rw [← BS.out, List.length_set]; exact LR.out
    have BB : Hid (∀ x ∈ bs, x < 256) := by rw [← BS.out]; exact shset_lt (by rw [← RS.out]; exact rest_lt hH.out.lt) _ _ (by decide)
    have BX : Hid (Lt32 ws) := by rw [← WS.out]; exact words_lt _
    obtain ⟨w5, W5⟩ : ∃ w5, Hid (wc.setCell ⟨g4, r, none⟩ (.int .u8 128) = w5) := ⟨_, rfl⟩
    have HM7 : Hid (Sm w w5 g g3 g4 A ws bs) := by rw [← W5.out, ← BS.out]; exact HM.out.setB r 128
    by_cases hbig : r < 56
    · have i5 : ¬ ((56 : Int) ≤ (r : Int)) := by omega
      have LX : Hid (ws.length = 8) := LW.out
      have FIN : Hid (Gs.digest (Gs.after ws (Gs.counting bs N)) = Gs.sum A) := by
        unfold Gs.sum
        rw [if_pos (by rw [← HR.out]; exact hbig), ← BS.out, ← WS.out, ← RS.out, ← HN.out, HR.out]
        exact rfl
      go_wp2_with (refine wpList_stc (by rfl) (by rfl) (.tmp 20) (.const (.int .u8 128)) (by rfl) (by rfl) (by rfl) A0 (by rw [LR.out]; exact hr2) ?_; rw [W5.out])
      clear c72 hr1 hr3 i2 i3 i5 hbig hr2
      refine wp_region_held (S := fun w' => Sn w w' g3 g4 ws bs) (by kernel_rfl) ?_
      have hM0 : Hid (Sm w (w5.drewN 1) g g3 g4 A ws bs) := HM7.out.drewN 1
      have hS0 : Sn w (w5.drewN 1) g3 g4 ws bs := hM0.out.sn
      generalize hw0 : w5.drewN 1 = w0 at hS0 hM0
      have hw1 : ({ heap := w5.heap, tape := w5.tape, drawn := w5.drawn + 1, os := w5.os, output := w5.output } : World) = w0 := hw0
      refine (show _ = w0 from hw1) ▸ ?_
      clear hw0 hw1
      refine wpAnyH_take (i := 2) (v := .pointer (some ⟨g, 0, none⟩)) rfl (by kernel_rfl) (by kernel_rfl) (by kernel_rfl) (fun _ _ _ h => h) (Or.inl ⟨by rfl, fun w hSw => by clear hSw; go_simp⟩) (by assumption) ?_
      simp only [List.getElem_toArray, List.getElem_cons_zero, List.getElem_cons_succ, Act.put, List.setIfInBounds_toArray, List.set_cons_zero, List.set_cons_succ]
      refine wpAnyH_take (i := 3) (v := .pointer (some ⟨g, 0, none⟩)) rfl (by kernel_rfl) (by kernel_rfl) (by kernel_rfl) (fun _ _ _ h => h) (Or.inl ⟨by rfl, fun w hSw => by clear hSw; go_simp⟩) (by assumption) ?_
      simp only [List.getElem_toArray, List.getElem_cons_zero, List.getElem_cons_succ, Act.put, List.setIfInBounds_toArray, List.set_cons_zero, List.set_cons_succ]
      refine wpAnyH_take (i := 4) (v := .pointer (some ⟨g, 72, none⟩)) rfl (by kernel_rfl) (by kernel_rfl) (by kernel_rfl) (fun _ _ _ h => h) (Or.inl ⟨by rfl, fun w hSw => by clear hSw; go_simp⟩) (by assumption) ?_
      simp only [List.getElem_toArray, List.getElem_cons_zero, List.getElem_cons_succ, Act.put, List.setIfInBounds_toArray, List.set_cons_zero, List.set_cons_succ]
      refine wpAnyH_take (i := 0) (v := .agg (cs .u32 ws)) rfl (by kernel_rfl) (by kernel_rfl) (by kernel_rfl) (fun _ _ _ h => h) (yieldsIf_ld (by rfl) 237 (.tmp 3) (by rfl) (by rfl) (fun w' h' => h'.st.rng) und53 (by rw [LX.out]; exact sz53)) (by assumption) ?_
      simp only [List.getElem_toArray, List.getElem_cons_zero, List.getElem_cons_succ, Act.put, List.setIfInBounds_toArray, List.set_cons_zero, List.set_cons_succ]
      refine wpAnyH_take (i := 1) (v := .agg (cs .u8 bs)) rfl (by kernel_rfl) (by kernel_rfl) (by kernel_rfl) (fun _ _ _ h => h) (yieldsIf_ld (by rfl) 240 (.tmp 4) (by rfl) (by rfl) (fun w' h' => h'.bl.rng) und56 (by rw [LB.out]; exact sz56)) (by assumption) ?_
      simp only [List.getElem_toArray, List.getElem_cons_zero, List.getElem_cons_succ, Act.put, List.setIfInBounds_toArray, List.set_cons_zero, List.set_cons_succ]
      refine wpAnyH_take (i := 5) (v := .int .i64 (N : Int)) rfl (by kernel_rfl) (by kernel_rfl) (by kernel_rfl) (fun _ _ _ h => h) (Or.inl ⟨by rfl, fun w' h' => by
        have c : w'.cell? ⟨g, 72, none⟩ = some (.int .i64 (N : Int)) := by rw [← HN.out]; exact (hH.out.below h'.bel).h.len
        clear h'
        go_simp⟩) (by assumption) ?_
      simp only [List.getElem_toArray, List.getElem_cons_zero, List.getElem_cons_succ, Act.put, List.setIfInBounds_toArray, List.set_cons_zero, List.set_cons_succ]
      refine wpAnyH_ready (rs := [6]) (by kernel_rfl) (by simp) (AllReadyH.cons rfl (fun K hK => ?_) AllReadyH.nil)
      simp only [List.getElem_toArray, List.getElem_cons_zero, List.getElem_cons_succ]
      rw [if_pos (by rfl)]
      go_simp
      go_wp2_with (go_at_call 174; refine (counting_n bs N LB.out N63.out _).mono ?_; rintro e w1 ⟨b1, rfl, H1⟩)
      have hM1 : Hid (Sm w w1 g g3 g4 A ws bs) := hM0.out.below H1.out.2
      refine hK.out _ _ ?_ (fun hS1 => ?_)
      · exact hM1.out.sn
      clear hK K
      have L1 : Hid (b1.length = 64) := by rw [H1.out.1]; exact counting_length LB.out N
      have B1 : Hid (∀ x ∈ b1, x < 256) := by rw [H1.out.1]; exact countN_lt BB.out _ 8
      have K1 : Hid (Kst w1) := hKs.out.below hM1.out.bel h0.out
      have p1 : Hid (21 < w1.heap.size) := Nat.lt_of_lt_of_le h0.out hM1.out.bel.size
      refine wpAnyH_ready (rs := [7]) (by kernel_rfl) (by simp) (AllReadyH.cons rfl (fun K hK => ?_) AllReadyH.nil)
      simp only [List.getElem_toArray, List.getElem_cons_zero, List.getElem_cons_succ]
      rw [if_pos (by rfl)]
      go_simp
      go_wp2_with (go_at_call 173; refine (after_n ws b1 LX.out L1.out BX B1 _ K1 p1.out).mono ?_; rintro e w2 ⟨s2, rfl, H2⟩)
      have hM2 : Hid (Sm w w2 g g3 g4 A ws bs) := hM1.out.below H2.out.2
      refine hK.out _ _ ?_ (fun hS2 => ?_)
      · exact hM2.out.sn
      clear hK K
      have L2 : Hid (s2.length = 8) := by rw [H2.out.1]; exact after_length _ _
      refine wpAnyH_ready (rs := [8]) (by kernel_rfl) (by simp) (AllReadyH.cons rfl (fun K hK => ?_) AllReadyH.nil)
      simp only [List.getElem_toArray, List.getElem_cons_zero, List.getElem_cons_succ]
      rw [if_pos (by rfl)]
      go_simp
      go_wp2_with (go_at_call 175; refine (digest_n s2 L2.out _).mono ?_; rintro e w3 ⟨d, rfl, H3⟩)
      have hM3 : Hid (Sm w w3 g g3 g4 A ws bs) := hM2.out.below H3.out.2
      refine hK.out _ _ ?_ (fun hS3 => ?_)
      · exact hM3.out.sn
      clear hK K
      have L3 : Hid (d.length = 32) := by rw [H3.out.1]; exact digest_length _
      refine wpAnyH_ready (rs := [9]) (by kernel_rfl) (by simp) (AllReadyH.cons rfl (fun K hK => ?_) AllReadyH.nil)
      simp only [List.getElem_toArray, List.getElem_cons_zero, List.getElem_cons_succ]
      rw [if_pos (by rfl)]
      refine wp_st (k := .u8) (t := 89) (l := Zb32) (l2 := d) (by rfl) 89 (.tmp 2) (.tmp 35) (by rfl) (by rfl) (by rfl) hM3.out.out (by rw [L3.out]; exact sz25) (by rw [L3.out]; rfl) ?_
      refine hK.out _ _ ?_ (fun hS4 => ?_)
      · exact hM3.out.putO _
      clear hK K
      refine wpAnyH_done (by kernel_rfl) ?_ _
      have RE : Hid (Arr .u8 89 (w3.setRow w.heap.size (cs .u8 d)) w.heap.size d) := hM3.out.out.setRow d
      have BE : Hid (Below w.heap.size w (w3.setRow w.heap.size (cs .u8 d))) := hS4.bel
      have DE : Hid (d = Gs.sum A) := by rw [H3.out.1, H2.out.1, H1.out.1]; exact FIN.out
      clear hS0 hS1 hS2 hS3 hS4
      go_wp2
      refine bodyPost_ret (v := .agg (cs .u8 d)) (res_arr (by rfl) (by rfl) RE.out und25 (by rw [L3.out]; exact sz25)) rfl ?_
      exact ⟨d, rfl, DE.out, BE.out⟩
    · have i5 : (56 : Int) ≤ (r : Int) := by omega
      have R1 : Hid (Rng .u32 w5 g3 0 ws) := HM7.out.st.rng
      have R2 : Hid (Rng .u8 w5 g4 0 bs) := HM7.out.bl.rng
      have K5 : Hid (Kst w5) := hKs.out.below HM7.out.bel h0.out
      have p5 : Hid (21 < w5.heap.size) := Nat.lt_of_lt_of_le h0.out HM7.out.bel.size
      go_wp2_with (first
        | (refine wpList_stc (by rfl) (by rfl) (.tmp 20) (.const (.int .u8 128)) (by rfl) (by rfl) (by rfl) A0 (by rw [LR.out]; exact hr2) ?_; rw [W5.out])
        | (refine wpList_ld (by rfl) 237 (.tmp 3) (by rfl) (by rfl) R1 und53 (by rw [LW.out]; exact sz53) ?_)
        | (refine wpList_ld (by rfl) 240 (.tmp 4) (by rfl) (by rfl) R2 und56 (by rw [LB.out]; exact sz56) ?_)
        | (go_at_call 173; refine (after_n ws bs LW.out LB.out BX BB _ K5 p5.out).mono ?_; rintro e w6 ⟨s6, rfl, H6⟩
           have L6 : Hid (s6.length = 8) := by rw [H6.out.1]; exact after_length _ _
           have M6 : Hid (Sm w w6 g g3 g4 A ws bs) := HM7.out.below H6.out.2
           have A6 : Hid (Arr .u32 237 w6 g3 ws) := M6.out.st
           obtain ⟨w8, W8⟩ : ∃ w8, Hid (w6.setRow g3 (cs .u32 s6) = w8) := ⟨_, rfl⟩
           have M8 : Hid (Sm w w8 g g3 g4 A s6 bs) := by rw [← W8.out]; exact M6.out.putW s6
           have A8 : Hid (Arr .u8 240 w8 g4 bs) := M8.out.bl
           obtain ⟨w9, W9⟩ : ∃ w9, Hid (w8.setRow g4 (cs .u8 Zb64) = w9) := ⟨_, rfl⟩
           have M9 : Hid (Sm w w9 g g3 g4 A s6 Zb64) := by rw [← W9.out]; exact M8.out.putB Zb64)
        | (refine wpList_st0 (t := 237) (l := ws) (l2 := s6) (by rfl) (by rfl) 237 (.tmp 3) (.tmp 25) (by rfl) (by rfl) (by rfl) A6 (by rw [L6.out]; exact sz53) (by rw [L6.out, LW.out]) ?_; rw [W8.out])
        | (refine wpList_st0 (k := .u8) (t := 240) (l := bs) (l2 := Zb64) (by rfl) (by rfl) 240 (.tmp 4) (.tmp 26) (by rfl) (by rfl) (by rfl) A8 sz56 (by rw [LB.out]; rfl) ?_; rw [W9.out]))
      have FIN : Hid (Gs.digest (Gs.after s6 (Gs.counting Zb64 N)) = Gs.sum A) := by
        unfold Gs.sum
        rw [if_neg (by rw [← HR.out]; exact hbig), H6.out.1, ← BS.out, ← WS.out, ← RS.out, ← HN.out, HR.out]
        exact rfl
      have LX : Hid (s6.length = 8) := L6.out
      have BX6 : Hid (Lt32 s6) := by rw [H6.out.1]; exact after_lt _ _
      have HM7 : Hid (Sm w w9 g g3 g4 A s6 Zb64) := M9.out
      clear c72 hr1 hr3 i2 i3 i5 hbig hr2 R1 R2 LB BB BX
      have BX : Hid (Lt32 s6) := BX6.out
      have LB : Hid (Zb64.length = 64) := rfl
      have BB : Hid (∀ x ∈ Zb64, x < 256) := by
        have h8 : ∀ x ∈ Zb64, x < 256 := by decide
        exact h8
      refine wp_region_held (S := fun w' => Sn w w' g3 g4 s6 Zb64) (by kernel_rfl) ?_
      have hM0 : Hid (Sm w (w9.drewN 1) g g3 g4 A s6 Zb64) := HM7.out.drewN 1
      have hS0 : Sn w (w9.drewN 1) g3 g4 s6 Zb64 := hM0.out.sn
      generalize hw0 : w9.drewN 1 = w0 at hS0 hM0
      have hw1 : ({ heap := w9.heap, tape := w9.tape, drawn := w9.drawn + 1, os := w9.os, output := w9.output } : World) = w0 := hw0
      refine (show _ = w0 from hw1) ▸ ?_
      clear hw0 hw1
      refine wpAnyH_take (i := 2) (v := .pointer (some ⟨g, 0, none⟩)) rfl (by kernel_rfl) (by kernel_rfl) (by kernel_rfl) (fun _ _ _ h => h) (Or.inl ⟨by rfl, fun w hSw => by clear hSw; go_simp⟩) (by assumption) ?_
      simp only [List.getElem_toArray, List.getElem_cons_zero, List.getElem_cons_succ, Act.put, List.setIfInBounds_toArray, List.set_cons_zero, List.set_cons_succ]
      refine wpAnyH_take (i := 3) (v := .pointer (some ⟨g, 0, none⟩)) rfl (by kernel_rfl) (by kernel_rfl) (by kernel_rfl) (fun _ _ _ h => h) (Or.inl ⟨by rfl, fun w hSw => by clear hSw; go_simp⟩) (by assumption) ?_
      simp only [List.getElem_toArray, List.getElem_cons_zero, List.getElem_cons_succ, Act.put, List.setIfInBounds_toArray, List.set_cons_zero, List.set_cons_succ]
      refine wpAnyH_take (i := 4) (v := .pointer (some ⟨g, 72, none⟩)) rfl (by kernel_rfl) (by kernel_rfl) (by kernel_rfl) (fun _ _ _ h => h) (Or.inl ⟨by rfl, fun w hSw => by clear hSw; go_simp⟩) (by assumption) ?_
      simp only [List.getElem_toArray, List.getElem_cons_zero, List.getElem_cons_succ, Act.put, List.setIfInBounds_toArray, List.set_cons_zero, List.set_cons_succ]
      refine wpAnyH_take (i := 0) (v := .agg (cs .u32 s6)) rfl (by kernel_rfl) (by kernel_rfl) (by kernel_rfl) (fun _ _ _ h => h) (yieldsIf_ld (by rfl) 237 (.tmp 3) (by rfl) (by rfl) (fun w' h' => h'.st.rng) und53 (by rw [LX.out]; exact sz53)) (by assumption) ?_
      simp only [List.getElem_toArray, List.getElem_cons_zero, List.getElem_cons_succ, Act.put, List.setIfInBounds_toArray, List.set_cons_zero, List.set_cons_succ]
      refine wpAnyH_take (i := 1) (v := .agg (cs .u8 Zb64)) rfl (by kernel_rfl) (by kernel_rfl) (by kernel_rfl) (fun _ _ _ h => h) (yieldsIf_ld (by rfl) 240 (.tmp 4) (by rfl) (by rfl) (fun w' h' => h'.bl.rng) und56 (by rw [LB.out]; exact sz56)) (by assumption) ?_
      simp only [List.getElem_toArray, List.getElem_cons_zero, List.getElem_cons_succ, Act.put, List.setIfInBounds_toArray, List.set_cons_zero, List.set_cons_succ]
      refine wpAnyH_take (i := 5) (v := .int .i64 (N : Int)) rfl (by kernel_rfl) (by kernel_rfl) (by kernel_rfl) (fun _ _ _ h => h) (Or.inl ⟨by rfl, fun w' h' => by
        have c : w'.cell? ⟨g, 72, none⟩ = some (.int .i64 (N : Int)) := by rw [← HN.out]; exact (hH.out.below h'.bel).h.len
        clear h'
        go_simp⟩) (by assumption) ?_
      simp only [List.getElem_toArray, List.getElem_cons_zero, List.getElem_cons_succ, Act.put, List.setIfInBounds_toArray, List.set_cons_zero, List.set_cons_succ]
      refine wpAnyH_ready (rs := [6]) (by kernel_rfl) (by simp) (AllReadyH.cons rfl (fun K hK => ?_) AllReadyH.nil)
      simp only [List.getElem_toArray, List.getElem_cons_zero, List.getElem_cons_succ]
      rw [if_pos (by rfl)]
      go_simp
      go_wp2_with (go_at_call 174; refine (counting_n Zb64 N LB.out N63.out _).mono ?_; rintro e w1 ⟨b1, rfl, H1⟩)
      have hM1 : Hid (Sm w w1 g g3 g4 A s6 Zb64) := hM0.out.below H1.out.2
      refine hK.out _ _ ?_ (fun hS1 => ?_)
      · exact hM1.out.sn
      clear hK K
      have L1 : Hid (b1.length = 64) := by rw [H1.out.1]; exact counting_length LB.out N
      have B1 : Hid (∀ x ∈ b1, x < 256) := by rw [H1.out.1]; exact countN_lt BB.out _ 8
      have K1 : Hid (Kst w1) := hKs.out.below hM1.out.bel h0.out
      have p1 : Hid (21 < w1.heap.size) := Nat.lt_of_lt_of_le h0.out hM1.out.bel.size
      refine wpAnyH_ready (rs := [7]) (by kernel_rfl) (by simp) (AllReadyH.cons rfl (fun K hK => ?_) AllReadyH.nil)
      simp only [List.getElem_toArray, List.getElem_cons_zero, List.getElem_cons_succ]
      rw [if_pos (by rfl)]
      go_simp
      go_wp2_with (go_at_call 173; refine (after_n s6 b1 LX.out L1.out BX B1 _ K1 p1.out).mono ?_; rintro e w2 ⟨s2, rfl, H2⟩)
      have hM2 : Hid (Sm w w2 g g3 g4 A s6 Zb64) := hM1.out.below H2.out.2
      refine hK.out _ _ ?_ (fun hS2 => ?_)
      · exact hM2.out.sn
      clear hK K
      have L2 : Hid (s2.length = 8) := by rw [H2.out.1]; exact after_length _ _
      refine wpAnyH_ready (rs := [8]) (by kernel_rfl) (by simp) (AllReadyH.cons rfl (fun K hK => ?_) AllReadyH.nil)
      simp only [List.getElem_toArray, List.getElem_cons_zero, List.getElem_cons_succ]
      rw [if_pos (by rfl)]
      go_simp
      go_wp2_with (go_at_call 175; refine (digest_n s2 L2.out _).mono ?_; rintro e w3 ⟨d, rfl, H3⟩)
      have hM3 : Hid (Sm w w3 g g3 g4 A s6 Zb64) := hM2.out.below H3.out.2
      refine hK.out _ _ ?_ (fun hS3 => ?_)
      · exact hM3.out.sn
      clear hK K
      have L3 : Hid (d.length = 32) := by rw [H3.out.1]; exact digest_length _
      refine wpAnyH_ready (rs := [9]) (by kernel_rfl) (by simp) (AllReadyH.cons rfl (fun K hK => ?_) AllReadyH.nil)
      simp only [List.getElem_toArray, List.getElem_cons_zero, List.getElem_cons_succ]
      rw [if_pos (by rfl)]
      refine wp_st (k := .u8) (t := 89) (l := Zb32) (l2 := d) (by rfl) 89 (.tmp 2) (.tmp 35) (by rfl) (by rfl) (by rfl) hM3.out.out (by rw [L3.out]; exact sz25) (by rw [L3.out]; rfl) ?_
      refine hK.out _ _ ?_ (fun hS4 => ?_)
      · exact hM3.out.putO _
      clear hK K
      refine wpAnyH_done (by kernel_rfl) ?_ _
      have RE : Hid (Arr .u8 89 (w3.setRow w.heap.size (cs .u8 d)) w.heap.size d) := hM3.out.out.setRow d
      have BE : Hid (Below w.heap.size w (w3.setRow w.heap.size (cs .u8 d))) := hS4.bel
      have DE : Hid (d = Gs.sum A) := by rw [H3.out.1, H2.out.1, H1.out.1]; exact FIN.out
      clear hS0 hS1 hS2 hS3 hS4
      go_wp2
      refine bodyPost_ret (v := .agg (cs .u8 d)) (res_arr (by rfl) (by rfl) RE.out und25 (by rw [L3.out]; exact sz25)) rfl ?_
      exact ⟨d, rfl, DE.out, BE.out⟩
end Go.Proofs.YtkdgakcmhnadfaaGreatDoor

/- Sj -/
/- What Sum and Hex of package sha do to a machine, for all slices. -/
namespace Go.Proofs.YtkdgakcmhnadfaaGreatDoor
open Go.ChangeShapes Go.WideShapes Go.ChangeAt Go.RowKit
set_option linter.unusedVariables false
set_option linter.unusedSimpArgs false
theorem Sln.apart {w : World} {a : Option Addr} {n g : Nat} {l : List Nat} (h : Sln w a n l) (hg : w.heap.size ≤ g) : ∀ b off, l ≠ [] → a = some ⟨b, off, none⟩ → b ≠ g := by
  intro b off h0 h1
  obtain ⟨b', off', h2, hl, _⟩ := h.sli.2.2.resolve_left h0
  rw [h2] at h1
  simp at h1
  omega
/- a result's variable, kept -/
structure Kp (w wr : World) : Prop where
  out : Arr .u8 89 wr w.heap.size Zb32
  bel : Below w.heap.size w wr
theorem Kp.first (w : World) : Kp w (w.alloc (.cells (cs .u8 Zb32) 89)) := ⟨Arr.new w .u8 89 Zb32, (Below.refl _ _).alloc (Nat.le_refl _) _⟩
theorem Kp.below {w a b : World} (h : Kp w a) (hb : Below a.heap.size a b) : Kp w b := ⟨h.out.below hb h.out.lt, h.bel.trans (hb.mono h.bel.size)⟩
theorem Kp.but {w a b : World} {g : Nat} (h : Kp w a) (hb : But g a b) (hg : w.heap.size < g) : Kp w b :=
  ⟨(hb.block w.heap.size h.out.lt (by omega)).trans h.out, But.below h.bel hb (by omega) h.bel.size⟩
set_option maxRecDepth 20000 in
set_option maxHeartbeats 1000000 in
theorem shsum_n {w : World} {a : Option Addr} {n k : Nat} {l : List Nat} (hS : Hid (Sln w a n l)) (hk : n ≤ k) (hKs : Hid (Kst w)) (h0 : Hid (21 < w.heap.size)) :
    Calls Tryz.prog 119 #[.slice a n k] w fun e w' => ∃ d, e = .returned (.agg (cs .u8 d)) ∧ Hid (d = Gs.sum l ∧ Below w.heap.size w w') := by
  have K0 : Hid (Kp w (w.alloc (.cells (cs .u8 Zb32) 89))) := Kp.first w
  go_enter Tryz.func119, Tryz.ntmps119
  go_wp2_with (first
    | (go_at_call 148; refine (new_n _).mono ?_; rintro e w1 ⟨g, rfl, H1⟩
       have K1 : Hid (Kp w w1) := K0.out.below H1.out.2.2
       have g1 : Hid (w.heap.size < g) := by
         have h5 : (w.alloc (.cells (cs .u8 Zb32) 89)).heap.size = w.heap.size + 1 := by simp
         have h6 : (w.alloc (.cells (cs .u8 Zb32) 89)).heap.size ≤ g := H1.out.1
         have h7 : w.heap.size < g := by omega
         exact h7
       have S1 : Hid (Sln w1 a n l) := hS.out.below K1.out.bel
       have P1 : Hid (∀ b off, l ≠ [] → a = some ⟨b, off, none⟩ → b ≠ g) := hS.out.apart (Nat.le_of_lt g1.out)
       have T1 : Hid (Kst w1) := hKs.out.below K1.out.bel h0.out
       have Z1 : Hid (21 < w1.heap.size) := Nat.lt_of_lt_of_le h0.out K1.out.bel.size
       have N1 : Hid (([] : List Nat).length + l.length < 4611686018427387904) := by
         have h7 : ([] : List Nat).length + l.length < 4611686018427387904 := by have := hS.out.sli.2.1; simp; omega
         exact h7
       have E1 : Hid (HS w1 g []) := H1.out.2.1)
    | (go_at_call 149; refine (write_n _ g n k [] l a E1 S1 hk P1 T1 Z1.out (by have := g1.out; have := h0.out; omega) N1).mono ?_; rintro e w2 ⟨rfl, H2⟩
       have K2 : Hid (Kp w w2) := K1.out.but H2.out.2 g1.out
       have T2 : Hid (Kst w2) := hKs.out.below K2.out.bel h0.out
       have Z2 : Hid (21 < w2.heap.size) := Nat.lt_of_lt_of_le h0.out K2.out.bel.size
       have E2 : Hid (HS w2 g l) := by have := H2.out.1; rw [List.nil_append] at this; exact this
       have N2 : Hid (l.length < 4611686018427387904) := by have := N1.out; simp at this; exact this)
    | (go_at_call 150; refine (hsum_n _ g l E2 T2 Z2 N2).mono ?_; rintro e w3 ⟨d, rfl, H3⟩
       have K3 : Hid (Kp w w3) := K2.out.below H3.out.2
       have A3 : Hid (Arr .u8 89 w3 w.heap.size Zb32) := K3.out.out
       have L3 : Hid (d.length = 32) := by rw [H3.out.1]; unfold Gs.sum; split <;> exact digest_length _)
    | (refine wpList_st0 (t := 89) (l := Zb32) (l2 := d) (by rfl) (by rfl) 89 (.tmp 2) (.tmp 9) (by rfl) (by rfl) (by rfl) A3 (by rw [L3.out]; exact sz25) (by rw [L3.out]; rfl) ?_))
  refine bodyPost_ret (v := .agg (cs .u8 d)) (res_arr (by rfl) (by rfl) (A3.out.setRow d) und25 (by rw [L3.out]; exact sz25)) rfl ?_
  exact ⟨d, rfl, H3.out.1, (Oth.setRow _).below K3.out.bel (Nat.le_refl _)⟩
end Go.Proofs.YtkdgakcmhnadfaaGreatDoor
