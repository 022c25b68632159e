import Derived.Test.YtfabnnbljkkihaaGreatDoorMxp
import Derived.Test.YtfabnnbljkkihaaGreatDoorMx07
import Derived.Deep.Cut
namespace Go.Proofs.YtfabnnbljkkihaaGreatDoor.Sh
open Go.ChangeShapes Go.WideShapes Go.ChangeAt Go.RowKit
set_option linter.unusedVariables false
set_option linter.unusedSimpArgs false
theorem yieldsIf_ld {ops : Array Oper} {S : World -> Prop} {o : Oper} {a : Act} {k : IntKind} {g off : Nat} {l : List Nat} (hw : Region.wanted o (yielded ops a.tmps) = true) (ty : TypeId) (x : Operand) (ho : o.op = .load ty x)
  (hx : a.eval x = .pointer (some ⟨g, off, none⟩)) (hS : ∀ w, S w -> Rng k w g off l) (hu : ∃ d, Tryz.prog.underlying ty = some d /\ d.isRow = true) (hi : (Tryz.prog.info? ty).map (·.size) = some l.length) : YieldsIf Tryz.prog ops S o (.agg (cs k l)) a := by
 obtain ⟨d, h1, h2⟩ := hu
 exact yieldsIf_load_mid hw ty x ho g off hx (l.map (wv k)) d hS h1 h2 (by rw [hi]; simp)
theorem wp_st {o : Oper} {a : Act} {K : Act -> World -> Prop} {Q : Exit -> Act -> World -> Prop} {w : World} {k : IntKind} {t : TypeId} {g : Nat} {l l2 : List Nat} (hd : o.dst = none) (ty : TypeId) (x y : Operand)
  (ho : o.op = .store ty x y) (hx : a.eval x = .pointer (some ⟨g, 0, none⟩)) (hy : a.eval y = .agg (cs k l2)) (hr : Arr k t w g l) (hi : (Tryz.prog.info? ty).map (·.size) = some l2.length) (hl : l.length = l2.length)
  (h : K a (w.setRow g (cs k l2))) : o.wp Tryz.prog a w K Q :=
 wp_store_row ty x y ho g (cs k l2) hx hy t (cs k l) hr (by rw [hi, cs_size]) (by rw [cs_size, cs_size, hl]) (cs_one _ _) (by rw [hd]; exact h)
theorem Hsh.alloc {w : World} {g n : Nat} {ws rs : List Nat} (h : Hsh w g ws rs n) (o : Obj) : Hsh (w.alloc o) g ws rs n := ⟨(Below.heap_alloc w o g h.lt).trans h.blk, h.l1, h.l2⟩
structure Sm (w wr : World) (g g3 g4 : Nat) (A ws bs : List Nat) : Prop where
 st : Arr .u32 185 wr g3 ws
 bl : Arr .u8 188 wr g4 bs
 out : Arr .u8 166 wr w.heap.size Zb32
 ne : g3 ≠ g4
 lt3 : w.heap.size < g3
 lt4 : w.heap.size < g4
 bel : Below w.heap.size w wr
structure Sn (w wr : World) (g3 g4 : Nat) (ws bs : List Nat) : Prop where
 st : Arr .u32 185 wr g3 ws
 bl : Arr .u8 188 wr g4 bs
 bel : Below w.heap.size w wr
theorem Sm.sn {w wr : World} {g g3 g4 : Nat} {A ws bs : List Nat} (h : Sm w wr g g3 g4 A ws bs) : Sn w wr g3 g4 ws bs := ⟨h.st, h.bl, h.bel⟩
theorem Sm.putO {w wr : World} {g g3 g4 : Nat} {A ws bs : List Nat} (h : Sm w wr g g3 g4 A ws bs) (d : List Nat) : Sn w (wr.setRow w.heap.size (cs .u8 d)) g3 g4 ws bs := by
 have o : Oth w.heap.size wr (wr.setRow w.heap.size (cs .u8 d)) := Oth.setRow _
 have h3 := h.lt3
 have h4 := h.lt4
 exact ⟨h.st.oth o (by omega), h.bl.oth o (by omega), o.below h.bel (Nat.le_refl _)⟩
theorem Sm.drewN {w wr : World} {g g3 g4 : Nat} {A ws bs : List Nat} (h : Sm w wr g g3 g4 A ws bs) (n : Nat) : Sm w (wr.drewN n) g g3 g4 A ws bs := ⟨h.st, h.bl, h.out, h.ne, h.lt3, h.lt4, ⟨h.bel.os, h.bel.tape, h.bel.output, h.bel.size, h.bel.block⟩⟩
theorem Sm.below {w wr w' : World} {g g3 g4 : Nat} {A ws bs : List Nat} (h : Sm w wr g g3 g4 A ws bs) (hb : Below wr.heap.size wr w') : Sm w w' g g3 g4 A ws bs :=
 ⟨h.st.below hb h.st.lt, h.bl.below hb h.bl.lt, h.out.below hb h.out.lt, h.ne, h.lt3, h.lt4, h.bel.trans (hb.mono h.bel.size)⟩
theorem Sm.setB {w wr : World} {g g3 g4 : Nat} {A ws bs : List Nat} (h : Sm w wr g g3 g4 A ws bs) (i x : Nat) : Sm w (wr.setCell ⟨g4, i, none⟩ (.int .u8 (x : Int))) g g3 g4 A ws (bs.set i x) := by
 have o : Oth g4 wr (wr.setCell ⟨g4, i, none⟩ (.int .u8 (x : Int))) := (Oth.refl _ wr).setCell i _
 have h4 := h.lt4
 exact ⟨h.st.oth o h.ne, h.bl.set i x, h.out.oth o (by omega), h.ne, h.lt3, h.lt4, o.below h.bel (by omega)⟩
theorem Sm.putB {w wr : World} {g g3 g4 : Nat} {A ws bs : List Nat} (h : Sm w wr g g3 g4 A ws bs) (b2 : List Nat) : Sm w (wr.setRow g4 (cs .u8 b2)) g g3 g4 A ws b2 := by
 have o : Oth g4 wr (wr.setRow g4 (cs .u8 b2)) := Oth.setRow _
 have h4 := h.lt4
 exact ⟨h.st.oth o h.ne, h.bl.setRow b2, h.out.oth o (by omega), h.ne, h.lt3, h.lt4, o.below h.bel (by omega)⟩
theorem Sm.putW {w wr : World} {g g3 g4 : Nat} {A ws bs : List Nat} (h : Sm w wr g g3 g4 A ws bs) (w2 : List Nat) : Sm w (wr.setRow g3 (cs .u32 w2)) g g3 g4 A w2 bs := by
 have o : Oth g3 wr (wr.setRow g3 (cs .u32 w2)) := Oth.setRow _
 have h3 := h.lt3
 exact ⟨h.st.setRow w2, h.bl.oth o (fun e => h.ne e.symm), h.out.oth o (by omega), h.ne, h.lt3, h.lt4, o.below h.bel (by omega)⟩
theorem HS.below {w w' : World} {g : Nat} {A : List Nat} (h : HS w g A) (hb : Below w.heap.size w w') : HS w' g A := ⟨h.h.below hb h.h.lt, h.lt⟩
theorem countN_lt {b : List Nat} (h : ∀ x ∈ b, x < 256) (c n : Nat) : ∀ x ∈ Gs.countN b c n, x < 256 := by
 induction n with
 | zero => exact h
 | succ n ih =>
   intro x hx
   rcases List.mem_or_eq_of_mem_set hx with h1 | h1
   . exact ih x h1
   . rw [h1]; exact Nat.mod_lt _ (by decide)
theorem counting_length {b : List Nat} (h : b.length = 64) (n : Nat) : (Gs.counting b n).length = 64 := by unfold Gs.counting; rw [countN_length, h]
theorem shset_lt {b : List Nat} (h : ∀ x ∈ b, x < 256) (i y : Nat) (hy : y < 256) : ∀ x ∈ b.set i y, x < 256 := by
 intro x hx
 rcases List.mem_or_eq_of_mem_set hx with h1 | h1
 . exact h x h1
 . omega
theorem digest_length (s : List Nat) : (Gs.digest s).length = 32 := digestN_length s 8
theorem sm_first {w w0 : World} {g : Nat} {A ws bs : List Nat} (hb : Below w.heap.size w w0) (h0 : Arr .u8 166 w0 w.heap.size Zb32) :
  Sm w ((((w0.alloc (.cells (cs .u32 Z8) 185)).alloc (.cells (cs .u8 Zb64) 188)).setRow w0.heap.size (cs .u32 ws)).setRow (w0.heap.size + 1) (cs .u8 bs)) g w0.heap.size (w0.heap.size + 1) A ws bs := by
 have hc := below2 w0 (.cells (cs .u32 Z8) 185) (.cells (cs .u8 Zb64) 188)
 obtain ⟨t1, t2⟩ := two w0 (.cells (cs .u32 Z8) 185) (.cells (cs .u8 Zb64) 188)
 have hl := h0.lt
 have h1 : Sm w ((w0.alloc (.cells (cs .u32 Z8) 185)).alloc (.cells (cs .u8 Zb64) 188)) g w0.heap.size (w0.heap.size + 1) A Z8 Zb64 :=
  ⟨t1, t2, h0.below hc hl, by omega, by omega, by omega, hb.trans (hc.mono (by omega))⟩
 exact (h1.putW ws).putB bs
theorem sm_second {w w0 : World} {g : Nat} {A ws bs : List Nat} (hb : Below w.heap.size w w0) (h0 : Arr .u8 166 w0 w.heap.size Zb32) :
  Sm w ((((w0.alloc (.cells (cs .u8 Zb64) 188)).alloc (.cells (cs .u32 Z8) 185)).setRow (w0.heap.size + 1) (cs .u32 ws)).setRow w0.heap.size (cs .u8 bs)) g (w0.heap.size + 1) w0.heap.size A ws bs := by
 have hc := below2 w0 (.cells (cs .u8 Zb64) 188) (.cells (cs .u32 Z8) 185)
 obtain ⟨t1, t2⟩ := two w0 (.cells (cs .u8 Zb64) 188) (.cells (cs .u32 Z8) 185)
 have hl := h0.lt
 have h1 : Sm w ((w0.alloc (.cells (cs .u8 Zb64) 188)).alloc (.cells (cs .u32 Z8) 185)) g (w0.heap.size + 1) w0.heap.size A Z8 Zb64 :=
  ⟨t2, t1, h0.below hc hl, by omega, by omega, by omega, hb.trans (hc.mono (by omega))⟩
 exact (h1.putW ws).putB bs
set_option maxRecDepth 20000 in
set_option maxHeartbeats 4000000 in
theorem hsum_n (w : World) (g : Nat) (A : List Nat) (hH : Hid (HS w g A)) (hKs : Hid (Kst w)) (h0 : Hid (19 < w.heap.size)) (hlen : Hid (A.length < 4611686018427387904)) :
  Calls Tryz.prog 127 #[.pointer (some ⟨g, 0, none⟩)] w fun e w' => ∃ d, e = .returned (.agg (cs .u8 d)) /\ Hid (d = Gs.sum A /\ Below w.heap.size w w') := by
 obtain ⟨ws, WS⟩ := nm (Gs.words A)
 obtain ⟨rs, RS⟩ := nm (Gs.rest A)
 obtain ⟨N, HN⟩ := nm (A.length)
 have LW : Hid (ws.length = 8) := by rw [<- WS.out]; exact words_length _
 have LR : Hid (rs.length = 64) := by rw [<- RS.out]; exact rest_length _
 have HD : Hid (Hsh ((w.alloc (.cells (cs .u8 Zb32) 166)).drewN 1) g ws rs N) := by
  have := hH.out.h
  rw [WS.out, RS.out, HN.out] at this
  exact (this.alloc _).drewN 1
 go_enter Tryz.func127, Tryz.ntmps127
 go_upto_region 1 with (fail)
 go_cut [3, 4] from 6 (fun t3 t4 wc => ∃ g3 g4 : Nat, t3 = .pointer (some ⟨g3, 0, none⟩) /\ t4 = .pointer (some ⟨g4, 0, none⟩) /\ Hid (Sm w wc g g3 g4 A ws rs))
 case first =>
  refine wp_region_held (S := fun w' => Hsh w' g ws rs N) (by kernel_rfl) ?_
  have hS0 : Hsh ((w.alloc (.cells (cs .u8 Zb32) 166)).drewN 1) g ws rs N := HD.out
  have hB0 : Hid (Below w.heap.size w ((w.alloc (.cells (cs .u8 Zb32) 166)).drewN 1) /\ Arr .u8 166 ((w.alloc (.cells (cs .u8 Zb32) 166)).drewN 1) w.heap.size Zb32) := ⟨below_drewN ((Below.refl _ _).alloc (Nat.le_refl _) _) 1, (Arr.new w .u8 166 Zb32).drewN 1⟩
  generalize hw0 : (w.alloc (.cells (cs .u8 Zb32) 166)).drewN 1 = w0 at hS0 hB0
  have hw1 : ({ heap := (w.alloc (.cells (cs .u8 Zb32) 166)).heap, tape := (w.alloc (.cells (cs .u8 Zb32) 166)).tape, drawn := (w.alloc (.cells (cs .u8 Zb32) 166)).drawn + 1, os := (w.alloc (.cells (cs .u8 Zb32) 166)).os, output := (w.alloc (.cells (cs .u8 Zb32) 166)).output } : World) = w0 := hw0
  refine (show _ = w0 from hw1) ▸ ?_
  refine wpAnyH_take (i := 0) (v := .pointer (some ⟨g, 0, none⟩)) rfl (by kernel_rfl) (by kernel_rfl) (by kernel_rfl) (fun _ _ _ h => h) (Or.inl ⟨by rfl, fun w hSw => by clear hSw; go_simp⟩) (by assumption) ?_
  simp only [pA,pB,pC,Act.put,pD,pE,pF]
  refine wpAnyH_take (i := 1) (v := .pointer (some ⟨g, 0, none⟩)) rfl (by kernel_rfl) (by kernel_rfl) (by kernel_rfl) (fun _ _ _ h => h) (Or.inl ⟨by rfl, fun w hSw => by clear hSw; go_simp⟩) (by assumption) ?_
  simp only [pA,pB,pC,Act.put,pD,pE,pF]
  refine wpAnyH_take (i := 2) (v := .pointer (some ⟨g, 0, none⟩)) rfl (by kernel_rfl) (by kernel_rfl) (by kernel_rfl) (fun _ _ _ h => h) (Or.inl ⟨by rfl, fun w hSw => by clear hSw; go_simp⟩) (by assumption) ?_
  simp only [pA,pB,pC,Act.put,pD,pE,pF]
  refine wpAnyH_take (i := 3) (v := .agg (cs .u32 ws)) rfl (by kernel_rfl) (by kernel_rfl) (by kernel_rfl) (fun _ _ _ h => h) (yieldsIf_ld (by rfl) 185 (.tmp 8) (by rfl) (by rfl) (fun w' h' => h'.wsR) und53 (by rw [LW.out]; exact sz53)) (by assumption) ?_
  simp only [pA,pB,pC,Act.put,pD,pE,pF]
  refine wpAnyH_take (i := 4) (v := .pointer (some ⟨g, 0, none⟩)) rfl (by kernel_rfl) (by kernel_rfl) (by kernel_rfl) (fun _ _ _ h => h) (Or.inl ⟨by rfl, fun w hSw => by clear hSw; go_simp⟩) (by assumption) ?_
  simp only [pA,pB,pC,Act.put,pD,pE,pF]
  refine wpAnyH_take (i := 5) (v := .pointer (some ⟨g, 0, none⟩)) rfl (by kernel_rfl) (by kernel_rfl) (by kernel_rfl) (fun _ _ _ h => h) (Or.inl ⟨by rfl, fun w hSw => by clear hSw; go_simp⟩) (by assumption) ?_
  simp only [pA,pB,pC,Act.put,pD,pE,pF]
  refine wpAnyH_take (i := 6) (v := .pointer (some ⟨g, 8, none⟩)) rfl (by kernel_rfl) (by kernel_rfl) (by kernel_rfl) (fun _ _ _ h => h) (Or.inl ⟨by rfl, fun w hSw => by clear hSw; go_simp⟩) (by assumption) ?_
  simp only [pA,pB,pC,Act.put,pD,pE,pF]
  refine wpAnyH_take (i := 7) (v := .agg (cs .u8 rs)) rfl (by kernel_rfl) (by kernel_rfl) (by kernel_rfl) (fun _ _ _ h => h) (yieldsIf_ld (by rfl) 188 (.tmp 12) (by rfl) (by rfl) (fun w' h' => h'.rsR) und56 (by rw [LR.out]; exact sz56)) (by assumption) ?_
  simp only [pA,pB,pC,Act.put,pD,pE,pF]
  refine wpAnyH_ready (rs := [8, 9]) (by kernel_rfl) (by simp) (AllReadyH.cons rfl (fun K hK => ?_) (AllReadyH.cons rfl (fun K hK => ?_) AllReadyH.nil))
  . simp only [pA,pB,pC]
    rw [if_pos (by rfl)]
    go_simp
    refine hK.out _ _ ?_ (fun hS1 => ?_)
    . exact Hsh.alloc (by assumption) _
    clear hK K
    refine wpAnyH_ready (rs := [9]) (by kernel_rfl) (by simp) (AllReadyH.cons rfl (fun K hK => ?_) AllReadyH.nil)
    simp only [pA,pB,pC]
    rw [if_pos (by rfl)]
    go_simp
    refine hK.out _ _ ?_ (fun hS1 => ?_)
    . exact Hsh.alloc (by assumption) _
    clear hK K
    refine wpAnyH_ready (rs := [10]) (by kernel_rfl) (by simp) (AllReadyH.cons rfl (fun K hK => ?_) AllReadyH.nil)
    simp only [pA,pB,pC]
    rw [if_pos (by rfl)]
    refine wp_st (k := .u32) (t := 185) (l := Z8) (l2 := ws) (by rfl) 185 (.tmp 3) (.tmp 9) (by rfl) (by rfl) (by rfl) (two w0 (.cells (cs .u32 Z8) 185) (.cells (cs .u8 Zb64) 188)).1 (by rw [LW.out]; exact sz53) (by rw [LW.out]; rfl) ?_
    refine hK.out _ _ ?_ (fun hS10 => ?_)
    . exact Hsh.oth (by assumption) (Oth.setRow _) (by have := hS0.lt; omega)
    clear hK K
    refine wpAnyH_ready (rs := [11]) (by kernel_rfl) (by simp) (AllReadyH.cons rfl (fun K hK => ?_) AllReadyH.nil)
    simp only [pA,pB,pC]
    rw [if_pos (by rfl)]
    refine wp_st (k := .u8) (t := 188) (l := Zb64) (l2 := rs) (by rfl) 188 (.tmp 4) (.tmp 13) (by rfl) (by rfl) (by rfl) (Arr.setRow_ne (k := .u8) (t := 188) (l := Zb64) (two w0 (.cells (cs .u32 Z8) 185) (.cells (cs .u8 Zb64) 188)).2 _ (by omega)) (by rw [LR.out]; exact sz56) (by rw [LR.out]; rfl) ?_
    refine hK.out _ _ ?_ (fun hS11 => ?_)
    . exact Hsh.oth (by assumption) (Oth.setRow _) (by have := hS0.lt; omega)
    clear hK K
    refine wpAnyH_done (by kernel_rfl) ?_ _
    go_wp2
    go_meet
    case rel => exact ⟨_, _, rfl, rfl, sm_first hB0.out.1 hB0.out.2⟩
  . simp only [pA,pB,pC]
    rw [if_pos (by rfl)]
    go_simp
    refine hK.out _ _ ?_ (fun hS1 => ?_)
    . exact Hsh.alloc (by assumption) _
    clear hK K
    refine wpAnyH_ready (rs := [8]) (by kernel_rfl) (by simp) (AllReadyH.cons rfl (fun K hK => ?_) AllReadyH.nil)
    simp only [pA,pB,pC]
    rw [if_pos (by rfl)]
    go_simp
    refine hK.out _ _ ?_ (fun hS1 => ?_)
    . exact Hsh.alloc (by assumption) _
    clear hK K
    refine wpAnyH_ready (rs := [10]) (by kernel_rfl) (by simp) (AllReadyH.cons rfl (fun K hK => ?_) AllReadyH.nil)
    simp only [pA,pB,pC]
    rw [if_pos (by rfl)]
    refine wp_st (k := .u32) (t := 185) (l := Z8) (l2 := ws) (by rfl) 185 (.tmp 3) (.tmp 9) (by rfl) (by rfl) (by rfl) (two w0 (.cells (cs .u8 Zb64) 188) (.cells (cs .u32 Z8) 185)).2 (by rw [LW.out]; exact sz53) (by rw [LW.out]; rfl) ?_
    refine hK.out _ _ ?_ (fun hS10 => ?_)
    . exact Hsh.oth (by assumption) (Oth.setRow _) (by have := hS0.lt; omega)
    clear hK K
    refine wpAnyH_ready (rs := [11]) (by kernel_rfl) (by simp) (AllReadyH.cons rfl (fun K hK => ?_) AllReadyH.nil)
    simp only [pA,pB,pC]
    rw [if_pos (by rfl)]
    refine wp_st (k := .u8) (t := 188) (l := Zb64) (l2 := rs) (by rfl) 188 (.tmp 4) (.tmp 13) (by rfl) (by rfl) (by rfl) (Arr.setRow_ne (k := .u8) (t := 188) (l := Zb64) (two w0 (.cells (cs .u8 Zb64) 188) (.cells (cs .u32 Z8) 185)).1 _ (by omega)) (by rw [LR.out]; exact sz56) (by rw [LR.out]; rfl) ?_
    refine hK.out _ _ ?_ (fun hS11 => ?_)
    . exact Hsh.oth (by assumption) (Oth.setRow _) (by have := hS0.lt; omega)
    clear hK K
    refine wpAnyH_done (by kernel_rfl) ?_ _
    go_wp2
    go_meet
    case rel => exact ⟨_, _, rfl, rfl, sm_second hB0.out.1 hB0.out.2⟩
 case rest =>
  obtain ⟨g3, g4, rfl, rfl, HM⟩ := hcut
  have c72 : wc.cell? ⟨g, 72, none⟩ = some (.int .i64 (N : Int)) := by rw [<- HN.out]; exact (hH.out.below HM.out.bel).h.len
  have N63 : Hid (N < 9223372036854775808) := by
   have h9 : N < 9223372036854775808 := by have := hlen.out; rw [HN.out] at this; omega
   exact h9
  obtain ⟨r, hr⟩ : ∃ r, r = N % 64 := ⟨_, rfl⟩
  have hr1 : (N : Int) % 64 = (r : Int) := by omega
  have hr3 : Int.tmod (N : Int) 64 = (r : Int) := by rw [Int.tmod_eq_emod_of_nonneg (by omega)]; exact hr1
  have hr2 : r < 64 := by omega
  have i2 : (0 : Int) <= (r : Int) := by omega
  have i3 : (r : Int) < 64 := by omega
  have HR : Hid (r = A.length % 64) := by rw [HN.out]; exact hr
  clear hr
  have A0 : Hid (Arr .u8 188 wc g4 rs) := HM.out.bl
  obtain ⟨bs, BS⟩ := nm (rs.set r 128)
  have LB : Hid (bs.length = 64) := by rw [<- BS.out, List.length_set]; exact LR.out
  have BB : Hid (∀ x ∈ bs, x < 256) := by rw [<- BS.out]; exact shset_lt (by rw [<- RS.out]; exact rest_lt hH.out.lt) _ _ (by decide)
  have BX : Hid (Lt32 ws) := by rw [<- WS.out]; exact words_lt _
  obtain ⟨w5, W5⟩ := nm (wc.setCell ⟨g4, r, none⟩ (.int .u8 128))
  have HM7 : Hid (Sm w w5 g g3 g4 A ws bs) := by rw [<- W5.out, <- BS.out]; exact HM.out.setB r 128
  by_cases hbig : r < 56
  . have i5 : ¬ ((56 : Int) <= (r : Int)) := by omega
    have LX : Hid (ws.length = 8) := LW.out
    have FIN : Hid (Gs.digest (Gs.after ws (Gs.counting bs N)) = Gs.sum A) := by
     unfold Gs.sum
     rw [if_pos (by rw [<- HR.out]; exact hbig), <- BS.out, <- WS.out, <- RS.out, <- HN.out, HR.out]
     exact rfl
    go_wp2_with (refine wpList_stc (by rfl) (by rfl) (.tmp 20) (.const (.int .u8 128)) (by rfl) (by rfl) (by rfl) A0 (by rw [LR.out]; exact hr2) ?_; rw [W5.out])
    clear c72 hr1 hr3 i2 i3 i5 hbig hr2
    refine wp_region_held (S := fun w' => Sn w w' g3 g4 ws bs) (by kernel_rfl) ?_
    have hM0 : Hid (Sm w (w5.drewN 1) g g3 g4 A ws bs) := HM7.out.drewN 1
    have hS0 : Sn w (w5.drewN 1) g3 g4 ws bs := hM0.out.sn
    generalize hw0 : w5.drewN 1 = w0 at hS0 hM0
    have hw1 : ({ heap := w5.heap, tape := w5.tape, drawn := w5.drawn + 1, os := w5.os, output := w5.output } : World) = w0 := hw0
    refine (show _ = w0 from hw1) ▸ ?_
    clear hw0 hw1
    refine wpAnyH_take (i := 2) (v := .pointer (some ⟨g, 0, none⟩)) rfl (by kernel_rfl) (by kernel_rfl) (by kernel_rfl) (fun _ _ _ h => h) (Or.inl ⟨by rfl, fun w hSw => by clear hSw; go_simp⟩) (by assumption) ?_
    simp only [pA,pB,pC,Act.put,pD,pE,pF]
    refine wpAnyH_take (i := 3) (v := .pointer (some ⟨g, 0, none⟩)) rfl (by kernel_rfl) (by kernel_rfl) (by kernel_rfl) (fun _ _ _ h => h) (Or.inl ⟨by rfl, fun w hSw => by clear hSw; go_simp⟩) (by assumption) ?_
    simp only [pA,pB,pC,Act.put,pD,pE,pF]
    refine wpAnyH_take (i := 4) (v := .pointer (some ⟨g, 72, none⟩)) rfl (by kernel_rfl) (by kernel_rfl) (by kernel_rfl) (fun _ _ _ h => h) (Or.inl ⟨by rfl, fun w hSw => by clear hSw; go_simp⟩) (by assumption) ?_
    simp only [pA,pB,pC,Act.put,pD,pE,pF]
    refine wpAnyH_take (i := 0) (v := .agg (cs .u32 ws)) rfl (by kernel_rfl) (by kernel_rfl) (by kernel_rfl) (fun _ _ _ h => h) (yieldsIf_ld (by rfl) 185 (.tmp 3) (by rfl) (by rfl) (fun w' h' => h'.st.rng) und53 (by rw [LX.out]; exact sz53)) (by assumption) ?_
    simp only [pA,pB,pC,Act.put,pD,pE,pF]
    refine wpAnyH_take (i := 1) (v := .agg (cs .u8 bs)) rfl (by kernel_rfl) (by kernel_rfl) (by kernel_rfl) (fun _ _ _ h => h) (yieldsIf_ld (by rfl) 188 (.tmp 4) (by rfl) (by rfl) (fun w' h' => h'.bl.rng) und56 (by rw [LB.out]; exact sz56)) (by assumption) ?_
    simp only [pA,pB,pC,Act.put,pD,pE,pF]
    refine wpAnyH_take (i := 5) (v := .int .i64 (N : Int)) rfl (by kernel_rfl) (by kernel_rfl) (by kernel_rfl) (fun _ _ _ h => h) (Or.inl ⟨by rfl, fun w' h' => by
     have c : w'.cell? ⟨g, 72, none⟩ = some (.int .i64 (N : Int)) := by rw [<- HN.out]; exact (hH.out.below h'.bel).h.len
     clear h'
     go_simp⟩) (by assumption) ?_
    simp only [pA,pB,pC,Act.put,pD,pE,pF]
    refine wpAnyH_ready (rs := [6]) (by kernel_rfl) (by simp) (AllReadyH.cons rfl (fun K hK => ?_) AllReadyH.nil)
    simp only [pA,pB,pC]
    rw [if_pos (by rfl)]
    go_simp
    go_wp2_with (go_at_call 148; refine (counting_n bs N LB.out N63.out _).mono ?_; rintro e w1 ⟨b1, rfl, H1⟩)
    have hM1 : Hid (Sm w w1 g g3 g4 A ws bs) := hM0.out.below H1.out.2
    refine hK.out _ _ ?_ (fun hS1 => ?_)
    . exact hM1.out.sn
    clear hK K
    have L1 : Hid (b1.length = 64) := by rw [H1.out.1]; exact counting_length LB.out N
    have B1 : Hid (∀ x ∈ b1, x < 256) := by rw [H1.out.1]; exact countN_lt BB.out _ 8
    have K1 : Hid (Kst w1) := hKs.out.below hM1.out.bel h0.out
    have p1 : Hid (19 < w1.heap.size) := Nat.lt_of_lt_of_le h0.out hM1.out.bel.size
    refine wpAnyH_ready (rs := [7]) (by kernel_rfl) (by simp) (AllReadyH.cons rfl (fun K hK => ?_) AllReadyH.nil)
    simp only [pA,pB,pC]
    rw [if_pos (by rfl)]
    go_simp
    go_wp2_with (go_at_call 147; refine (after_n ws b1 LX.out L1.out BX B1 _ K1 p1.out).mono ?_; rintro e w2 ⟨s2, rfl, H2⟩)
    have hM2 : Hid (Sm w w2 g g3 g4 A ws bs) := hM1.out.below H2.out.2
    refine hK.out _ _ ?_ (fun hS2 => ?_)
    . exact hM2.out.sn
    clear hK K
    have L2 : Hid (s2.length = 8) := by rw [H2.out.1]; exact after_length _ _
    refine wpAnyH_ready (rs := [8]) (by kernel_rfl) (by simp) (AllReadyH.cons rfl (fun K hK => ?_) AllReadyH.nil)
    simp only [pA,pB,pC]
    rw [if_pos (by rfl)]
    go_simp
    go_wp2_with (go_at_call 149; refine (digest_n s2 L2.out _).mono ?_; rintro e w3 ⟨d, rfl, H3⟩)
    have hM3 : Hid (Sm w w3 g g3 g4 A ws bs) := hM2.out.below H3.out.2
    refine hK.out _ _ ?_ (fun hS3 => ?_)
    . exact hM3.out.sn
    clear hK K
    have L3 : Hid (d.length = 32) := by rw [H3.out.1]; exact digest_length _
    refine wpAnyH_ready (rs := [9]) (by kernel_rfl) (by simp) (AllReadyH.cons rfl (fun K hK => ?_) AllReadyH.nil)
    simp only [pA,pB,pC]
    rw [if_pos (by rfl)]
    refine wp_st (k := .u8) (t := 166) (l := Zb32) (l2 := d) (by rfl) 166 (.tmp 2) (.tmp 35) (by rfl) (by rfl) (by rfl) hM3.out.out (by rw [L3.out]; exact sz25) (by rw [L3.out]; rfl) ?_
    refine hK.out _ _ ?_ (fun hS4 => ?_)
    . exact hM3.out.putO _
    clear hK K
    refine wpAnyH_done (by kernel_rfl) ?_ _
    have RE : Hid (Arr .u8 166 (w3.setRow w.heap.size (cs .u8 d)) w.heap.size d) := hM3.out.out.setRow d
    have BE : Hid (Below w.heap.size w (w3.setRow w.heap.size (cs .u8 d))) := hS4.bel
    have DE : Hid (d = Gs.sum A) := by rw [H3.out.1, H2.out.1, H1.out.1]; exact FIN.out
    clear hS0 hS1 hS2 hS3 hS4
    go_wp2
    refine bodyPost_ret (v := .agg (cs .u8 d)) (res_arr (by rfl) (by rfl) RE.out und25 (by rw [L3.out]; exact sz25)) rfl ?_
    exact ⟨d, rfl, DE.out, BE.out⟩
  . have i5 : (56 : Int) <= (r : Int) := by omega
    have R1 : Hid (Rng .u32 w5 g3 0 ws) := HM7.out.st.rng
    have R2 : Hid (Rng .u8 w5 g4 0 bs) := HM7.out.bl.rng
    have K5 : Hid (Kst w5) := hKs.out.below HM7.out.bel h0.out
    have p5 : Hid (19 < w5.heap.size) := Nat.lt_of_lt_of_le h0.out HM7.out.bel.size
    go_wp2_with (first
     | (refine wpList_stc (by rfl) (by rfl) (.tmp 20) (.const (.int .u8 128)) (by rfl) (by rfl) (by rfl) A0 (by rw [LR.out]; exact hr2) ?_; rw [W5.out])
     | (refine wpList_ld (by rfl) 185 (.tmp 3) (by rfl) (by rfl) R1 und53 (by rw [LW.out]; exact sz53) ?_)
     | (refine wpList_ld (by rfl) 188 (.tmp 4) (by rfl) (by rfl) R2 und56 (by rw [LB.out]; exact sz56) ?_)
     | (go_at_call 147; refine (after_n ws bs LW.out LB.out BX BB _ K5 p5.out).mono ?_; rintro e w6 ⟨s6, rfl, H6⟩
        have L6 : Hid (s6.length = 8) := by rw [H6.out.1]; exact after_length _ _
        have M6 : Hid (Sm w w6 g g3 g4 A ws bs) := HM7.out.below H6.out.2
        have A6 : Hid (Arr .u32 185 w6 g3 ws) := M6.out.st
        obtain ⟨w8, W8⟩ := nm (w6.setRow g3 (cs .u32 s6))
        have M8 : Hid (Sm w w8 g g3 g4 A s6 bs) := by rw [<- W8.out]; exact M6.out.putW s6
        have A8 : Hid (Arr .u8 188 w8 g4 bs) := M8.out.bl
        obtain ⟨w9, W9⟩ := nm (w8.setRow g4 (cs .u8 Zb64))
        have M9 : Hid (Sm w w9 g g3 g4 A s6 Zb64) := by rw [<- W9.out]; exact M8.out.putB Zb64)
     | (refine wpList_st0 (t := 185) (l := ws) (l2 := s6) (by rfl) (by rfl) 185 (.tmp 3) (.tmp 25) (by rfl) (by rfl) (by rfl) A6 (by rw [L6.out]; exact sz53) (by rw [L6.out, LW.out]) ?_; rw [W8.out])
     | (refine wpList_st0 (k := .u8) (t := 188) (l := bs) (l2 := Zb64) (by rfl) (by rfl) 188 (.tmp 4) (.tmp 26) (by rfl) (by rfl) (by rfl) A8 sz56 (by rw [LB.out]; rfl) ?_; rw [W9.out]))
    have FIN : Hid (Gs.digest (Gs.after s6 (Gs.counting Zb64 N)) = Gs.sum A) := by
     unfold Gs.sum
     rw [if_neg (by rw [<- HR.out]; exact hbig), H6.out.1, <- BS.out, <- WS.out, <- RS.out, <- HN.out, HR.out]
     exact rfl
    have LX : Hid (s6.length = 8) := L6.out
    have BX6 : Hid (Lt32 s6) := by rw [H6.out.1]; exact after_lt _ _
    have HM7 : Hid (Sm w w9 g g3 g4 A s6 Zb64) := M9.out
    clear c72 hr1 hr3 i2 i3 i5 hbig hr2 R1 R2 LB BB BX
    have BX : Hid (Lt32 s6) := BX6.out
    have LB : Hid (Zb64.length = 64) := rfl
    have BB : Hid (∀ x ∈ Zb64, x < 256) := by
     have h8 : ∀ x ∈ Zb64, x < 256 := by decide
     exact h8
    refine wp_region_held (S := fun w' => Sn w w' g3 g4 s6 Zb64) (by kernel_rfl) ?_
    have hM0 : Hid (Sm w (w9.drewN 1) g g3 g4 A s6 Zb64) := HM7.out.drewN 1
    have hS0 : Sn w (w9.drewN 1) g3 g4 s6 Zb64 := hM0.out.sn
    generalize hw0 : w9.drewN 1 = w0 at hS0 hM0
    have hw1 : ({ heap := w9.heap, tape := w9.tape, drawn := w9.drawn + 1, os := w9.os, output := w9.output } : World) = w0 := hw0
    refine (show _ = w0 from hw1) ▸ ?_
    clear hw0 hw1
    refine wpAnyH_take (i := 2) (v := .pointer (some ⟨g, 0, none⟩)) rfl (by kernel_rfl) (by kernel_rfl) (by kernel_rfl) (fun _ _ _ h => h) (Or.inl ⟨by rfl, fun w hSw => by clear hSw; go_simp⟩) (by assumption) ?_
    simp only [pA,pB,pC,Act.put,pD,pE,pF]
    refine wpAnyH_take (i := 3) (v := .pointer (some ⟨g, 0, none⟩)) rfl (by kernel_rfl) (by kernel_rfl) (by kernel_rfl) (fun _ _ _ h => h) (Or.inl ⟨by rfl, fun w hSw => by clear hSw; go_simp⟩) (by assumption) ?_
    simp only [pA,pB,pC,Act.put,pD,pE,pF]
    refine wpAnyH_take (i := 4) (v := .pointer (some ⟨g, 72, none⟩)) rfl (by kernel_rfl) (by kernel_rfl) (by kernel_rfl) (fun _ _ _ h => h) (Or.inl ⟨by rfl, fun w hSw => by clear hSw; go_simp⟩) (by assumption) ?_
    simp only [pA,pB,pC,Act.put,pD,pE,pF]
    refine wpAnyH_take (i := 0) (v := .agg (cs .u32 s6)) rfl (by kernel_rfl) (by kernel_rfl) (by kernel_rfl) (fun _ _ _ h => h) (yieldsIf_ld (by rfl) 185 (.tmp 3) (by rfl) (by rfl) (fun w' h' => h'.st.rng) und53 (by rw [LX.out]; exact sz53)) (by assumption) ?_
    simp only [pA,pB,pC,Act.put,pD,pE,pF]
    refine wpAnyH_take (i := 1) (v := .agg (cs .u8 Zb64)) rfl (by kernel_rfl) (by kernel_rfl) (by kernel_rfl) (fun _ _ _ h => h) (yieldsIf_ld (by rfl) 188 (.tmp 4) (by rfl) (by rfl) (fun w' h' => h'.bl.rng) und56 (by rw [LB.out]; exact sz56)) (by assumption) ?_
    simp only [pA,pB,pC,Act.put,pD,pE,pF]
    refine wpAnyH_take (i := 5) (v := .int .i64 (N : Int)) rfl (by kernel_rfl) (by kernel_rfl) (by kernel_rfl) (fun _ _ _ h => h) (Or.inl ⟨by rfl, fun w' h' => by
     have c : w'.cell? ⟨g, 72, none⟩ = some (.int .i64 (N : Int)) := by rw [<- HN.out]; exact (hH.out.below h'.bel).h.len
     clear h'
     go_simp⟩) (by assumption) ?_
    simp only [pA,pB,pC,Act.put,pD,pE,pF]
    refine wpAnyH_ready (rs := [6]) (by kernel_rfl) (by simp) (AllReadyH.cons rfl (fun K hK => ?_) AllReadyH.nil)
    simp only [pA,pB,pC]
    rw [if_pos (by rfl)]
    go_simp
    go_wp2_with (go_at_call 148; refine (counting_n Zb64 N LB.out N63.out _).mono ?_; rintro e w1 ⟨b1, rfl, H1⟩)
    have hM1 : Hid (Sm w w1 g g3 g4 A s6 Zb64) := hM0.out.below H1.out.2
    refine hK.out _ _ ?_ (fun hS1 => ?_)
    . exact hM1.out.sn
    clear hK K
    have L1 : Hid (b1.length = 64) := by rw [H1.out.1]; exact counting_length LB.out N
    have B1 : Hid (∀ x ∈ b1, x < 256) := by rw [H1.out.1]; exact countN_lt BB.out _ 8
    have K1 : Hid (Kst w1) := hKs.out.below hM1.out.bel h0.out
    have p1 : Hid (19 < w1.heap.size) := Nat.lt_of_lt_of_le h0.out hM1.out.bel.size
    refine wpAnyH_ready (rs := [7]) (by kernel_rfl) (by simp) (AllReadyH.cons rfl (fun K hK => ?_) AllReadyH.nil)
    simp only [pA,pB,pC]
    rw [if_pos (by rfl)]
    go_simp
    go_wp2_with (go_at_call 147; refine (after_n s6 b1 LX.out L1.out BX B1 _ K1 p1.out).mono ?_; rintro e w2 ⟨s2, rfl, H2⟩)
    have hM2 : Hid (Sm w w2 g g3 g4 A s6 Zb64) := hM1.out.below H2.out.2
    refine hK.out _ _ ?_ (fun hS2 => ?_)
    . exact hM2.out.sn
    clear hK K
    have L2 : Hid (s2.length = 8) := by rw [H2.out.1]; exact after_length _ _
    refine wpAnyH_ready (rs := [8]) (by kernel_rfl) (by simp) (AllReadyH.cons rfl (fun K hK => ?_) AllReadyH.nil)
    simp only [pA,pB,pC]
    rw [if_pos (by rfl)]
    go_simp
    go_wp2_with (go_at_call 149; refine (digest_n s2 L2.out _).mono ?_; rintro e w3 ⟨d, rfl, H3⟩)
    have hM3 : Hid (Sm w w3 g g3 g4 A s6 Zb64) := hM2.out.below H3.out.2
    refine hK.out _ _ ?_ (fun hS3 => ?_)
    . exact hM3.out.sn
    clear hK K
    have L3 : Hid (d.length = 32) := by rw [H3.out.1]; exact digest_length _
    refine wpAnyH_ready (rs := [9]) (by kernel_rfl) (by simp) (AllReadyH.cons rfl (fun K hK => ?_) AllReadyH.nil)
    simp only [pA,pB,pC]
    rw [if_pos (by rfl)]
    refine wp_st (k := .u8) (t := 166) (l := Zb32) (l2 := d) (by rfl) 166 (.tmp 2) (.tmp 35) (by rfl) (by rfl) (by rfl) hM3.out.out (by rw [L3.out]; exact sz25) (by rw [L3.out]; rfl) ?_
    refine hK.out _ _ ?_ (fun hS4 => ?_)
    . exact hM3.out.putO _
    clear hK K
    refine wpAnyH_done (by kernel_rfl) ?_ _
    have RE : Hid (Arr .u8 166 (w3.setRow w.heap.size (cs .u8 d)) w.heap.size d) := hM3.out.out.setRow d
    have BE : Hid (Below w.heap.size w (w3.setRow w.heap.size (cs .u8 d))) := hS4.bel
    have DE : Hid (d = Gs.sum A) := by rw [H3.out.1, H2.out.1, H1.out.1]; exact FIN.out
    clear hS0 hS1 hS2 hS3 hS4
    go_wp2
    refine bodyPost_ret (v := .agg (cs .u8 d)) (res_arr (by rfl) (by rfl) RE.out und25 (by rw [L3.out]; exact sz25)) rfl ?_
    exact ⟨d, rfl, DE.out, BE.out⟩
def hexd (x : Nat) : Nat := if x < 10 then 48 + x else 87 + x
def hexL : List Nat -> List Nat
 | [] => []
 | c :: r => hexd (c / 16) :: hexd (c % 16) :: hexL r
theorem hexL_length (l : List Nat) : (hexL l).length = 2 * l.length := by
 induction l with
 | nil => rfl
 | cons c r ih => simp [hexL, ih]; omega
theorem hexL_app (a b : List Nat) : hexL (a ++ b) = hexL a ++ hexL b := by
 induction a with
 | nil => rfl
 | cons c r ih => simp [hexL, ih]
theorem hexd_lt {x : Nat} (h : x < 16) : hexd x < 256 := by unfold hexd; split <;> omega
theorem hexL_lt {l : List Nat} (h : ∀ x ∈ l, x < 256) : ∀ x ∈ hexL l, x < 256 := by
 induction l with
 | nil => simp [hexL]
 | cons c r ih =>
   intro x hx
   have hc := h c (by simp)
   simp only [hexL, List.mem_cons] at hx
   rcases hx with h1 | h1 | h1
   . rw [h1]; exact hexd_lt (by omega)
   . rw [h1]; exact hexd_lt (by omega)
   . exact ih (fun y hy => h y (by simp [hy])) x h1
theorem idx16 (x : Nat) (hx : x < 16) (w : World) : (Instr.index 9 (.string { data := #[48, 49, 50, 51, 52, 53, 54, 55, 56, 57, 97, 98, 99, 100, 101, 102] }) (.int .u8 (x : Int))).run Tryz.prog w = .ok (.int .u8 ((hexd x : Nat) : Int)) w := by
 rw [run_index_string w _ _ _ _ Tryz.underlying9, dif_pos ⟨by omega, by show (x : Int) < 16; omega⟩]
 match x, hx with
 | 0, _ => rfl
 | 1, _ => rfl
 | 2, _ => rfl
 | 3, _ => rfl
 | 4, _ => rfl
 | 5, _ => rfl
 | 6, _ => rfl
 | 7, _ => rfl
 | 8, _ => rfl
 | 9, _ => rfl
 | 10, _ => rfl
 | 11, _ => rfl
 | 12, _ => rfl
 | 13, _ => rfl
 | 14, _ => rfl
 | 15, _ => rfl
 | n + 16, h => exact absurd h (by omega)
theorem yields_idx {ops : Array Oper} {o : Oper} {a : Act} {x t : Nat} (hw : Region.wanted o (yielded ops a.tmps) = true) (ho : o.op = .index 9 (.const (.string { data := #[48, 49, 50, 51, 52, 53, 54, 55, 56, 57, 97, 98, 99, 100, 101, 102] })) (.tmp t)) (hx : a.eval (.tmp t) = .int .u8 (x : Int)) (h : x < 16) :
  Yields Tryz.prog ops o (.int .u8 ((hexd x : Nat) : Int)) a := by
 refine .inl ⟨hw, fun w => ?_⟩
 have e : a.eval (.const (.string { data := #[48, 49, 50, 51, 52, 53, 54, 55, 56, 57, 97, 98, 99, 100, 101, 102] })) = .string { data := #[48, 49, 50, 51, 52, 53, 54, 55, 56, 57, 97, 98, 99, 100, 101, 102] } := rfl
 unfold execOp
 simp only [ho, hx, e, Sem.run_bind, idx16 x h w]
 rfl
def Hx (w wr : World) (g n k : Nat) (l : List Nat) : Prop := wr.ownsRow w.heap.size 5 1 (.slice (some ⟨g, 0, none⟩) (2 * k) (2 * n)) (2 * k) ((hexL (l.take k)).map bv) /\ Below w.heap.size w wr
theorem and15 : ∀ c : Nat, c < 256 -> bits BinOp.and IntKind.u8 (c : Int) 15 = ((c % 16 : Nat) : Int) := by
 intro c hc
 have := u8_and_nat c 15 hc (by decide)
 rw [nat_mask4] at this
 exact this
theorem app_two {w wr : World} {g n k : Nat} {l : List Nat} (h : Hx w wr g n k l) (hk : k < n) (hn : n = l.length) (hb : l.getD k 0 < 256) (x y : Nat) (hx : x = hexd (l.getD k 0 / 16)) (hy : y = hexd (l.getD k 0 % 16)) :
  ∃ w', (Builtin.append_ #[165, 165] 165 #[.slice (some ⟨g, 0, none⟩) (2 * k) (2 * n),.slice (some ⟨wr.heap.size, 0, none⟩) 2 2]).run Tryz.prog (wr.alloc (.cells #[.int .u8 (x : Int), .int .u8 (y : Int)] 5)) = .ok (.slice (some ⟨g, 0, none⟩) (2 * (k + 1)) (2 * n)) w' /\ Hx w w' g n (k + 1) l := by
 have b1 : Blk (wr.alloc (.cells #[.int .u8 (x : Int), .int .u8 (y : Int)] 5)) wr.heap.size [x, y] := by
  show (wr.heap.push _)[wr.heap.size]? = _
  simp [bv]
 have hx2 : x < 256 := by rw [hx]; exact hexd_lt (by omega)
 have hy2 : y < 256 := by rw [hy]; exact hexd_lt (by omega)
 have s1 := b1.sln (by intro z hz; simp at hz; omega) (by simp)
 obtain ⟨w', hrun, hown, hgr⟩ := app_fits (c := 2) (h.1.alloc _) s1 (by simp) (by simp; omega)
 have e2 : [x, y].length = 2 := rfl
 rw [e2] at hrun hown
 have e3 : 2 * k + 2 = 2 * (k + 1) := by omega
 rw [e3] at hrun hown
 refine ⟨w', hrun, ?_, ?_⟩
 . have e4 : (hexL (l.take (k + 1))) = hexL (l.take k) ++ [x, y] := by
    rw [take_succ_getD (by omega), hexL_app, hx, hy]
    rfl
   rw [e4, List.map_append]
   exact hown
 . have hb := h.2.alloc h.2.size (.cells #[.int .u8 (x : Int), .int .u8 (y : Int)] 5)
   exact hb.grown hgr hb.size (fun j e => by simp at e; have := own_lt h.1; omega)
theorem make_hex (n : Nat) (h : 2 * n <= 281474976710656) (w : World) : (Instr.makeSlice 165 (.int .i64 0) (.int .i64 (2 * (n : Int)))).run Tryz.prog w = .ok (.slice (some ⟨w.heap.size, 0, none⟩) 0 (2 * n)) (w.alloc (.cells (madeCells #[.int .u8 0] (2 * n)) 5)) := by
 obtain ⟨i, hi, hz0, hz1, hz2⟩ := info_parts info5
 have hr := run_make (P := Tryz.prog) w 165 5 i (.int .u8 0) Tryz.underlying165 hi hz0 .i64 .i64 0 (2 * (n : Int)) (by omega) (by omega) (by rw [hz2]; omega) (by omega)
 rw [hz1] at hr
 have e : (2 * (n : Int)).toNat = 2 * n := by omega
 rw [e] at hr
 simpa [Value.cells] using hr
set_option maxRecDepth 20000 in
set_option maxHeartbeats 1000000 in
theorem hex_n {w : World} {a : Option Addr} {n k : Nat} {l : List Nat} (hS : Hid (Sln w a n l)) (m : 2 * n <= 140737488351232) :
  Calls Tryz.prog 128 #[.slice a n k] w fun e w' => ∃ t, e = .returned (.string t) /\ Hid (t = spell (hexL l) /\ Below w.heap.size w w') := by
 have mk := make_hex n (by omega) w
 have H0 : Hid (Hx w (w.alloc (.cells (madeCells #[.int .u8 0] (2 * n)) 5)) w.heap.size n 0 l) := ⟨World.ownsRow_made w _ (2 * n) (Nat.le_refl _) (by unfold maxLen; omega) (by simp [size_madeCells]), (Below.refl _ _).alloc (Nat.le_refl _) _⟩
 have M : Hid (2 * n <= 140737488351232) := m
 go_enter Tryz.func128, Tryz.ntmps128
 go_wp2
 clear mk
 go_loopw [12, 3] (fun ti tv wr => ∃ j g : Nat, j <= n /\ ti = .int .i64 j /\ tv = .slice (some ⟨g, 0, none⟩) (2 * j) (2 * n) /\ Hid (Hx w wr g n j l)) (fun ti _ _ => n - (intOf ti).toNat)
 case atStart => exact ⟨0, w.heap.size, by omega, rfl, rfl, H0.out⟩
 case round =>
  obtain ⟨j, g, hj, rfl, rfl, HX⟩ := hrel
  by_cases hlt : j < n
  . obtain ⟨b, off, ha, c1⟩ := row_at (hS.out.below HX.out.2) hlt
    subst ha
    obtain ⟨c, HC⟩ := nm (l.getD j 0)
    have hc : c < 256 := by rw [<- HC.out]; exact getD_lt hS.out.lt j
    rw [HC.out] at c1
    obtain ⟨x, X⟩ := nm (hexd (c / 16))
    obtain ⟨y, Y⟩ := nm (hexd (c % 16))
    obtain ⟨w2, AP0, HX2⟩ := app_two (wr := wr.drew) ⟨HX.out.1.drew, HX.out.2.drew⟩ hlt hS.out.len (by rw [HC.out]; exact hc) x y (by rw [HC.out, X.out]) (by rw [HC.out, Y.out])
    obtain ⟨c1', C1'⟩ : ∃ z, z = c / 16 := ⟨_, rfl⟩
    obtain ⟨c2', C2'⟩ : ∃ z, z = c % 16 := ⟨_, rfl⟩
    have a15 := and15 c hc
    rw [<- C2'] at a15
    have sh : (c : Int) / 16 = (c1' : Int) := by omega
    have X' : Hid (hexd c1' = x) := by rw [C1']; exact X.out
    have Y' : Hid (hexd c2' = y) := by rw [C2']; exact Y.out
    have l1 : c1' < 16 := by omega
    have l2 : c2' < 16 := by omega
    have H2 : Hid (Hx w w2 g n (j + 1) l) := HX2
    have i1 : (0 : Int) <= (j : Int) := by omega
    have i2 : (j : Int) < (n : Int) := by omega
    clear C1' C2' HX2
    go_wp2
    refine wp_region_any (by kernel_rfl) ?_
    clear c1 i1 i2
    refine wpAny_take (i := 0) (v := .slice (some ⟨g, 0, none⟩) (2 * j) (2 * n)) rfl (by kernel_rfl) (by kernel_rfl) (by kernel_rfl) (fun _ _ _ h => h) (Or.inl ⟨by rfl, fun w => by go_simp⟩) ?_
    simp only [pA,pB,pC,Act.put,pD,pE,pF]
    refine wpAny_take (i := 1) (v := .int .u8 (c : Int)) rfl (by kernel_rfl) (by kernel_rfl) (by kernel_rfl) (fun _ _ _ h => h) (Or.inl ⟨by rfl, fun w => by go_simp⟩) ?_
    simp only [pA,pB,pC,Act.put,pD,pE,pF]
    refine wpAny_take (i := 2) (v := .int .u8 (c1' : Int)) rfl (by kernel_rfl) (by kernel_rfl) (by kernel_rfl) (fun _ _ _ h => h) (Or.inl ⟨by rfl, fun w => by go_simp⟩) ?_
    simp only [pA,pB,pC,Act.put,pD,pE,pF]
    refine wpAny_take (i := 3) (v := .int .u8 ((hexd c1' : Nat) : Int)) rfl (by kernel_rfl) (by kernel_rfl) (by kernel_rfl) (fun _ _ _ h => h) (yields_idx (by rfl) (by rfl) (by rfl) l1) ?_
    simp only [pA,pB,pC,Act.put,pD,pE,pF]
    refine wpAny_take (i := 4) (v := .int .u8 (c : Int)) rfl (by kernel_rfl) (by kernel_rfl) (by kernel_rfl) (fun _ _ _ h => h) (Or.inl ⟨by rfl, fun w => by go_simp⟩) ?_
    simp only [pA,pB,pC,Act.put,pD,pE,pF]
    refine wpAny_take (i := 5) (v := .int .u8 (c2' : Int)) rfl (by kernel_rfl) (by kernel_rfl) (by kernel_rfl) (fun _ _ _ h => h) (Or.inl ⟨by rfl, fun w => by go_simp⟩) ?_
    simp only [pA,pB,pC,Act.put,pD,pE,pF]
    refine wpAny_take (i := 6) (v := .int .u8 ((hexd c2' : Nat) : Int)) rfl (by kernel_rfl) (by kernel_rfl) (by kernel_rfl) (fun _ _ _ h => h) (yields_idx (by rfl) (by rfl) (by rfl) l2) ?_
    simp only [pA,pB,pC,Act.put,pD,pE,pF]
    refine wpAny_seq' (k := 7) (by kernel_rfl) (by kernel_rfl) ?_
    simp only [List.drop_succ_cons, List.drop_zero]
    rw [X'.out, Y'.out]
    generalize hw4 : ({ heap := wr.heap, tape := wr.tape, drawn := wr.drawn + 1, os := wr.os, output := wr.output } : World) = w4
    have hw5 : wr.drew = w4 := hw4
    rw [hw5] at AP0
    have AP : Hid ((Builtin.append_ #[165, 165] 165 #[.slice (some ⟨g, 0, none⟩) (2 * j) (2 * n),.slice (some ⟨w4.heap.size, 0, none⟩) 2 2]).run Tryz.prog (w4.alloc (.cells #[.int .u8 (x : Int), .int .u8 (y : Int)] 5)) = .ok (.slice (some ⟨g, 0, none⟩) (2 * (j + 1)) (2 * n)) w2) := AP0
    clear AP0 hw4 hw5 a15 sh
    go_wp2_with (at_builtin; refine wpList_app (by rfl) (.tmp 16) (.tmp 23) (by rfl) (by rfl) (by rfl) (by rfl) AP ?_)
    go_roundw
    case rel => exact ⟨j + 1, g, by omega, by go_num, rfl, H2.out⟩
    case measure => simp [intOf]; omega
  . have e : j = n := by omega
    subst e
    have ht : l.take j = l := List.take_of_length_le (by rw [<- hS.out.len]; omega)
    have own := HX.out.1
    rw [ht] at own
    have SL : Hid (Sln wr (some ⟨g, 0, none⟩) (2 * j) (hexL l)) := own_sln own (hexL_lt hS.out.lt) (by rw [hexL_length, <- hS.out.len]; have := M.out; omega)
    have cv := conv_n (k := 2 * j) SL
    have i2 : ¬ ((j : Int) < (j : Int)) := by omega
    clear own
    go_wp2
    go_ret
    exact ⟨_, rfl, rfl, HX.out.2⟩
end Go.Proofs.YtfabnnbljkkihaaGreatDoor.Sh
