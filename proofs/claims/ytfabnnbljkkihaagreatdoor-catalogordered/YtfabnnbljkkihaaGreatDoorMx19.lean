import Derived.Test.YtfabnnbljkkihaaGreatDoorMxp
import Derived.Test.YtfabnnbljkkihaaGreatDoorMx13
import Derived.Test.YtfabnnbljkkihaaGreatDoorMx16
import Derived.Test.YtfabnnbljkkihaaGreatDoorMx17
import Derived.Test.YtfabnnbljkkihaaGreatDoorMx18
import Derived.Test.YtfabnnbljkkihaaGreatDoorMx09
namespace Go.Proofs.YtfabnnbljkkihaaGreatDoor
open Go.ChangeShapes Go.WideShapes Go.ChangeAt Go.RowKit
set_option maxRecDepth 20000
set_option linter.unusedVariables false
set_option linter.unusedSimpArgs false
def tillP (z : Nat) (P : World -> Prop) (L : Array Bool) (W : World) : Prop := L.getD z false = true ∨ P W
theorem tillP_set {z i : Nat} {P : World -> Prop} (h : i ≠ z) {L : Array Bool} {W : World} : tillP z P (L.setIfInBounds i true) W ↔ tillP z P L W := by
 unfold tillP
 rw [getD_set_ne false h]
theorem tkp {P : Program} {md : Region.Mode} {ops : Array Oper} {Q : Exit → Act → World → Prop} {z : Nat} {T : World → Prop} {i : Nat} {oi : Oper} {v : Value} {f : Nat} {L : Array Bool} {a : Act} {w : World} (hi : ops[i]? = some oi) (hw : tillP z T L w)
  (h : tillP z T (L.setIfInBounds i true) w → wpTill P md ops Q (tillP z T) f (L.setIfInBounds i true) (a.put oi.dst v) w) (hs : Region.noSelect ops = true := by kernel_rfl) (hf : Region.free md ops L i = true := by kernel_rfl) (hr : (Region.ready md ops L).contains i = true := by kernel_rfl) (hQ : ∀ c a w, Q (.panic c) (a.put oi.dst v) w → Q (.panic c) a w := by exact fun _ _ _ h => h) (hS : i ≠ z := by decide) (hy : Yields P ops oi v a := by exact Or.inl ⟨by rfl, fun w => by go_simp⟩) : wpTill P md ops Q (tillP z T) (f + 1) L a w := till_take hi hs hf hr hQ (fun L w => tillP_set hS) hy hw h
theorem tillP_out {z : Nat} {P : World -> Prop} {L : Array Bool} {W : World} (hL : L.getD z true = false) (h : tillP z P L W) : P W := h.resolve_left (by rw [offD hL]; decide)
structure Mc (w W : World) (gc gl g : Nat) (A : Array Value) (a : Option Addr) (n c : Nat) (fl : Value) : Prop where
 m : Mb W gc g A a n c fl
 r : W.heap[g + 1]? = some (.cells #[.int .i64 0,.string ⟨#[]⟩] 51 (0, 0))
 f : Ch w W (fun q => q = gc ∨ q = gl)
section
variable {w W W' : World} {gc gl g : Nat} {A : Array Value} {a : Option Addr} {n c : Nat} {fl : Value}
end
theorem outZ : (Tryz.prog.info? 51).map (·.size) = some 2 := by kernel_rfl
theorem done_n (w : World) : Calls Tryz.prog 92 #[] w fun e w' => e = .returned (.agg #[.int .i64 0,.string ⟨#[]⟩]) /\ Hid (Below w.heap.size w w') := by
 go_enter Tryz.func92, Tryz.ntmps92
 go_wp2
 refine bodyPost_ret (results_cell_row Tryz.results92 _ _ w.heap.size 51 #[.int .i64 0,.string ⟨#[]⟩] (0, 0) _ (by rfl) (heap_alloc_new w _) Tryz.underlying51 rfl outZ) rfl ?_
 exact ⟨rfl, alloc1 w _⟩
theorem yl_any {ops : Array Oper} {S : World -> Prop} {op : Oper} {a : Act} {A : Array Value} {g : Nat} {x : Operand} {t : TypeId} (hw : Region.wanted op (yielded ops a.tmps) = true) (ho : op.op = .load t x) (hx : a.eval x = .pointer (some ⟨g, 0, none⟩)) (hS : ∀ W, S W -> (loadVar t ⟨g, 0, none⟩).run Tryz.prog W = .ok (.agg A) W) : YieldsIf Tryz.prog ops S op (.agg A) a :=
 .inl ⟨hw, fun W hW => by
  unfold execOp
  simp only [ho, hx, Instr.loadAt, Instr.sureAddr, Sem.run_bind, Sem.run_pure, Result.andThen_ok, hS W hW]⟩
theorem four_new (w : World) (a b c d : Obj) : (((((w.alloc a).alloc b).alloc c).alloc d).heap[w.heap.size]? = some a) /\ (((((w.alloc a).alloc b).alloc c).alloc d).heap[w.heap.size + 1]? = some b) /\ (((((w.alloc a).alloc b).alloc c).alloc d).heap[w.heap.size + 2]? = some c) /\ (((((w.alloc a).alloc b).alloc c).alloc d).heap[w.heap.size + 3]? = some d) := by
 have e1 : (w.alloc a).heap.size = w.heap.size + 1 := by simp
 have e2 : ((w.alloc a).alloc b).heap.size = w.heap.size + 2 := by simp
 have e3 : (((w.alloc a).alloc b).alloc c).heap.size = w.heap.size + 3 := by simp
 have b2 := alloc1 (w.alloc a) b
 have b3 := alloc1 ((w.alloc a).alloc b) c
 have b4 := alloc1 (((w.alloc a).alloc b).alloc c) d
 refine ⟨(b4.block _ (by omega)).trans ((b3.block _ (by omega)).trans ((b2.block _ (by omega)).trans (heap_alloc_new w a))), (b4.block _ (by omega)).trans ((b3.block _ (by omega)).trans ?_), (b4.block _ (by omega)).trans ?_, ?_⟩
 . rw [<- e1]; exact heap_alloc_new _ _
 . rw [<- e2]; exact heap_alloc_new _ _
 . rw [<- e3]; exact heap_alloc_new _ _
structure ApS (W : World) (g gc g7 : Nat) (C R : Array Value) : Prop where
 c : W.heap[gc]? = some (.cells C 58 (0, 0))
 r : W.heap[g7]? = some (.cells R 51 (0, 0))
 y : ∃ C4, W.heap[g + 2]? = some (.cells C4 58 (0, 0)) /\ 2 = C4.size
 z : ∃ R4, W.heap[g + 3]? = some (.cells R4 51 (0, 0)) /\ 2 = R4.size
 n : gc ≠ g + 2 /\ g7 ≠ g + 3
theorem ApS.sy {W : World} {g gc g7 : Nat} {C R : Array Value} (h : ApS W g gc g7 C R) (hc : C.size = 2) : ApS (W.setRow (g + 2) C) g gc g7 C R := by
 obtain ⟨C4, k4, z4⟩ := h.y
 obtain ⟨R4, k5, z5⟩ := h.z
 refine ⟨(setRow_other _ _ _ _ h.n.1).trans h.c, ?_, ⟨C, setRow_heap _ _ _ _ _ _ k4, hc.symm⟩, ⟨R4, (setRow_other _ _ _ _ (by omega)).trans k5, z5⟩, h.n⟩
 refine (setRow_other _ _ _ _ (fun e => ?_)).trans h.r
 have h1 := h.r
 rw [e, k4] at h1
 simp at h1
theorem ApS.sz {W : World} {g gc g7 : Nat} {C R : Array Value} (h : ApS W g gc g7 C R) (hr : R.size = 2) : ApS (W.setRow (g + 3) R) g gc g7 C R := by
 obtain ⟨C4, k4, z4⟩ := h.y
 obtain ⟨R4, k5, z5⟩ := h.z
 refine ⟨?_, (setRow_other _ _ _ _ h.n.2).trans h.r, ⟨C4, (setRow_other _ _ _ _ (by omega)).trans k4, z4⟩, ⟨R, setRow_heap _ _ _ _ _ _ k5, hr.symm⟩, h.n⟩
 refine (setRow_other _ _ _ _ (fun e => ?_)).trans h.c
 have h1 := h.c
 rw [e, k5] at h1
 simp at h1
theorem res25 (tmps : Array Value) (w : World) (g4 g5 : Nat) (C R : Array Value) (hp4 : tmps[4]?.getD undef = .pointer (some ⟨g4, 0, none⟩)) (hp5 : tmps[5]?.getD undef = .pointer (some ⟨g5, 0, none⟩)) (h4 : w.heap[g4]? = some (.cells C 58 (0, 0))) (h5 : w.heap[g5]? = some (.cells R 51 (0, 0))) (c2 : (Tryz.prog.info? 58).map (·.size) = some C.size) (r2 : (Tryz.prog.info? 51).map (·.size) = some R.size) : (results Tryz.f25 tmps).run Tryz.prog w = .ok (.tuple #[.agg C, .agg R]) w := by
 simp [results, Tryz.results25, hp4, hp5, asAddr, run_loadVar_row w g4 58 58 C (0, 0) _ h4 Tryz.underlying58 rfl c2, run_loadVar_row w g5 51 51 R (0, 0) _ h5 Tryz.underlying51 rfl r2]
def Arr (n : Nat) (A : Array Value) : Prop := A.size = n /\ A.all (·.oneCell') = true
set_option maxHeartbeats 8000000 in
theorem apply_shell {w : World} {A C0 : Array Value} {x : Cx} {P : World -> Array Value -> Prop} {Q : World -> Array Value -> Array Value -> Prop} (hA : Hid (A = (encX x).toArray))
  (hT : Hid (x.cm.bu.size <= 281474976710656 /\ x.cm.ke.size <= 281474976710656 /\ x.cm.et.size <= 281474976710656)) (h0 : Hid (Arr 2 C0))
  (s1 : ∀ W W' C, P W C -> Below W.heap.size W W' -> P W' C)
  (s2 : ∀ W W' C R, Q W C R -> (∀ q, w.heap.size + 4 <= q -> q < W.heap.size -> W'.heap[q]? = W.heap[q]?) -> W.heap.size <= W'.heap.size -> Q W' C R)
  (h46 : ∀ W, Below w.heap.size w W -> W.heap.size = w.heap.size + 4 -> Calls Tryz.prog 46 #[.agg C0] W fun e w' => ∃ C1, e = .returned (.agg C1) /\ Hid (Arr 2 C1 /\ P w' C1 /\ Below W.heap.size W w'))
  (h47 : ∀ W gc C1, w.heap.size + 4 <= gc -> Hid (W.heap[gc]? = some (.cells C1 58 (0, 0))) -> Hid (P W C1) -> Below w.heap.size w W -> w.heap.size + 4 <= W.heap.size -> Calls Tryz.prog 47 #[.pointer (some ⟨gc, 0, none⟩), .agg A] W fun e w' => ∃ R, e = .returned (.agg R) /\ Hid (Arr 2 R /\ ∃ C2, w'.heap[gc]? = some (.cells C2 58 (0, 0)) /\ Arr 2 C2 /\ Q w' C2 R /\ Below (w.heap.size + 4) W w')) :
  Calls Tryz.prog 25 #[.agg C0, .agg A] w fun e w' => ∃ C R, e = .returned (.tuple #[.agg C, .agg R]) /\ Hid (Q w' C R /\ Below w.heap.size w w') := by
 have a18 : A.size = 18 := encX_sz hA.out
 obtain ⟨w1, Hw1⟩ := nm ((((w.alloc (.cells C0 58)).alloc (.cells A 29)).alloc (.cells #[.slice none 0 0,.slice none 0 0] 58)).alloc (.cells #[.int .i64 0,.string ⟨#[]⟩] 51))
 obtain ⟨g, Hg⟩ := nm (w.heap.size)
 have B1 : Hid (Below w.heap.size w w1) := by rw [<- Hw1.out]; exact (((alloc1 w _).alloc (by simp) _).alloc (by simp; omega) _).alloc (by simp; omega) _
 have z1 : Hid (w1.heap.size = g + 4) := by rw [<- Hw1.out, <- Hg.out]; show _ = _; simp
 have k1 : Hid (w1.heap[g]? = some (.cells C0 58 (0, 0)) /\ w1.heap[g + 1]? = some (.cells A 29 (0, 0)) /\ w1.heap[g + 2]? = some (.cells #[.slice none 0 0,.slice none 0 0] 58 (0, 0)) /\ w1.heap[g + 3]? = some (.cells #[.int .i64 0,.string ⟨#[]⟩] 51 (0, 0))) := by
  rw [<- Hw1.out, <- Hg.out]
  exact four_new w _ _ _ _
 have S1 : Hid _ := s1
 have S2 : Hid _ := s2
 have H46 : Hid _ := h46
 have H47 : Hid _ := h47
 clear s1 s2 h46 h47
 have c0 : (Tryz.prog.info? 58).map (·.size) = some C0.size := by rw [h0.out.1]; exact inz58
 go_enter Tryz.func25, Tryz.ntmps25
 go_upto_region 1 with (fail)
 rw [Hw1.out, Hg.out]
 clear Hw1
 go_upto_region 2 with (first
  | (refine wpList_load_row (by rfl) 58 (.tmp 2) (by rfl) g (by rfl) 58 C0 (0, 0) _ k1.out.1 Tryz.underlying58 rfl c0 ?_)
  | (go_at_call 46; refine (H46.out w1 B1.out (by rw [Hg.out]; exact z1.out)).mono ?_; rintro e w2 ⟨C1, rfl, H2⟩
     have c1 : (Tryz.prog.info? 58).map (·.size) = some C1.size := (by rw [H2.out.1.1]; exact inz58)
     have C1S : Hid (C1.size = 2) := H2.out.1.1
     have C1A : Hid (C1.all (·.oneCell') = true) := H2.out.1.2
     obtain ⟨w3, Hw3, K3⟩ := box_any w2 58 #[.slice none 0 0,.slice none 0 0] C1
     obtain ⟨gc, Hgc⟩ := nm (w2.heap.size))
  | (refine wpList_store_row (by rfl) 58 (.tmp 6) (.tmp 9) (by rfl) w2.heap.size C1 (by rfl) (by rfl) 58 _ (heap_alloc_new w2 _) c1 (by rw [C1S.out]; rfl) C1A.out ?_))
 rw [Hw3.out, Hgc.out]
 have B3 : Hid (Below w1.heap.size w1 w3) := H2.out.2.2.trans (K3.out.2.1.mono H2.out.2.2.size)
 have kc3 : Hid (w3.heap[gc]? = some (.cells C1 58 (0, 0))) := by rw [<- Hgc.out]; exact K3.out.1
 have P3 : Hid (P w3 C1) := S1.out _ _ _ H2.out.2.1 K3.out.2.1
 have lc : Hid (g + 4 <= gc) := by rw [<- Hgc.out, <- z1.out]; exact H2.out.2.2.size
 have k3 : Hid (w3.heap[g + 1]? = some (.cells A 29 (0, 0)) /\ w3.heap[g + 2]? = some (.cells #[.slice none 0 0,.slice none 0 0] 58 (0, 0)) /\ w3.heap[g + 3]? = some (.cells #[.int .i64 0,.string ⟨#[]⟩] 51 (0, 0))) :=
  ⟨(B3.out.block _ (by rw [z1.out]; omega)).trans k1.out.2.1, (B3.out.block _ (by rw [z1.out]; omega)).trans k1.out.2.2.1, (B3.out.block _ (by rw [z1.out]; omega)).trans k1.out.2.2.2⟩
 have BW3 := bt B1 B3
 clear Hw3 Hgc K3 H2 k1
 go_upto_region 3 with (first
  | (refine wpList_load_row (by rfl) 29 (.tmp 3) (by rfl) (g + 1) (by rfl) 29 A (0, 0) _ k3.out.1 Tryz.underlying29 rfl (info29 a18) ?_)
  | (go_at_call 48; refine (copyTexts_n hA hT).mono ?_; rintro e w4 ⟨rfl, H4⟩
     have kc4 := sh H4 kc3
     have P4 : Hid (P w4 C1) := S1.out _ _ _ P3.out H4.out
     have B4 := bt B3 H4
     have BW4 := bt BW3 H4)
  | (go_at_call 47; refine (H47.out w4 gc C1 (by rw [Hg.out]; exact lc.out) kc4 P4 BW4.out (by have h1 := B4.out.size; have h2 := z1.out; have h3 := Hg.out; omega)).mono ?_; rintro e w5 ⟨R, rfl, H5⟩
     have r2 : (Tryz.prog.info? 51).map (·.size) = some R.size := (by rw [H5.out.1.1]; exact outZ)
     have RS : Hid (R.size = 2) := H5.out.1.1
     have RA : Hid (R.all (·.oneCell') = true) := H5.out.1.2
     obtain ⟨w6, Hw6, K6⟩ := box_any w5 51 #[.int .i64 0,.string ⟨#[]⟩] R
     obtain ⟨g7, Hg7⟩ := nm (w5.heap.size))
  | (refine wpList_store_row (by rfl) 51 (.tmp 7) (.tmp 12) (by rfl) w5.heap.size R (by rfl) (by rfl) 51 _ (heap_alloc_new w5 _) r2 (by rw [RS.out]; rfl) RA.out ?_))
 rw [Hw6.out, Hg7.out]
 obtain ⟨C, HC⟩ : ∃ C, Hid (w5.heap[gc]? = some (.cells C 58 (0, 0)) /\ Arr 2 C /\ Q w5 C R /\ Below (w.heap.size + 4) w4 w5) := H5.out.2
 have c2 : (Tryz.prog.info? 58).map (·.size) = some C.size := by rw [HC.out.2.1.1]; exact inz58
 have c2s : C.size = 2 := HC.out.2.1.1
 have r2s : R.size = 2 := RS.out
 have CA : Hid (C.all (·.oneCell') = true) := HC.out.2.1.2
 have l5 : Hid (w4.heap.size <= w5.heap.size) := HC.out.2.2.2.size
 have l4 : Hid (g + 4 <= w4.heap.size) := by have h1 := B4.out.size; have h2 := z1.out; show _ <= _; omega
 have b5 : Hid (∀ q, q < g + 4 -> w5.heap[q]? = w1.heap[q]?) := fun q hq => (HC.out.2.2.2.block q (by rw [Hg.out]; exact hq)).trans (B4.out.block q (by rw [z1.out]; exact hq))
 have A6 : Hid (ApS w6.drew g gc g7 C R) := by
  have b6 : ∀ q, q < w5.heap.size -> w6.heap[q]? = w5.heap[q]? := fun q hq => K6.out.2.1.block q hq
  have kk : ∀ q, q < g + 4 -> w6.heap[q]? = w3.heap[q]? := fun q hq => (b6 q (by have := l4.out; have := l5.out; omega)).trans ((b5.out q hq).trans (B3.out.block q (by rw [z1.out]; exact hq)).symm)
  exact ⟨(b6 gc (gl HC.out.1)).trans HC.out.1, by rw [<- Hg7.out]; exact K6.out.1, ⟨_, (kk _ (by omega)).trans k3.out.2.1, rfl⟩, ⟨_, (kk _ (by omega)).trans k3.out.2.2, rfl⟩, by have := lc.out; omega, by have := Hg7.out; have := l4.out; have := l5.out; omega⟩
 refine wp_region_till (S := fun L W => ApS W g gc g7 C R) (by kernel_rfl) A6.out (fun hS => ?_)
 refine trx (i := 0) (c := 2) (v := .agg C) rfl rfl (yl_any (by rfl) (by rfl) (by rfl) (fun W h => run_loadVar_row W gc 58 58 C (0, 0) _ h.c Tryz.underlying58 rfl c2)) hS (fun hSb => ?_)
 simp only [pA,pB,pC,Act.put,pD,pE,pF]
 clear hS
 refine trx (i := 1) (c := 3) (v := .agg R) rfl rfl (yl_any (by rfl) (by rfl) (by rfl) (fun W h => run_loadVar_row W g7 51 51 R (0, 0) _ h.r Tryz.underlying51 rfl r2)) hSb (fun hS => ?_)
 simp only [pA,pB,pC,Act.put,pD,pE,pF]
 clear hSb
 refine till_one (i := 2) (by kernel_rfl) rfl (fun K hK => ?_)
 simp only [pA,pB,pC]
 rw [if_pos (by rfl)]
 obtain ⟨C4, k4, z4⟩ := hS.y
 refine wp_store_row 58 (.tmp 4) (.tmp 13) (by rfl) (g + 2) C (by rfl) (by rfl) 58 _ k4 c2 (by rw [c2s]; exact z4.symm) CA.out ?_
 refine hK.out _ _ (hS.sy c2s) (fun hSb => ?_)
 clear hK K
 try simp only [pA,pB,pC,Act.put,pD,pE,pF]
 clear hS
 refine till_one (i := 3) (by kernel_rfl) rfl (fun K hK => ?_)
 simp only [pA,pB,pC]
 rw [if_pos (by rfl)]
 obtain ⟨R4, k5, z5⟩ := hSb.z
 refine wp_store_row 51 (.tmp 5) (.tmp 14) (by rfl) (g + 3) R (by rfl) (by rfl) 51 _ k5 r2 (by rw [r2s]; exact z5.symm) RA.out ?_
 refine hK.out _ _ (hSb.sz r2s) (fun hS => ?_)
 clear hK K
 try simp only [pA,pB,pC,Act.put,pD,pE,pF]
 clear hSb
 refine till_done (by kernel_rfl) ?_ _
 clear hS
 show (Exit.then _ _) .normal _ _
 go_wp2
 have e3 := A6.out.sy c2s
 have e4 := e3.sz r2s
 obtain ⟨C4, f1, f2⟩ := A6.out.y
 obtain ⟨R4, f3, f4⟩ := e3.z
 refine bodyPost_ret (res25 _ _ (g + 2) (g + 3) C R (by rfl) (by rfl) ((setRow_other _ _ _ _ (by omega)).trans (setRow_heap _ _ _ _ _ _ f1)) (setRow_heap _ _ _ _ _ _ f3) c2 r2) rfl ?_
 have hs : ∀ q, g + 4 <= q -> q < w5.heap.size -> ((w6.drew.setRow (g + 2) C).setRow (g + 3) R).heap[q]? = w5.heap[q]? := fun q h1 h2 => (setRow_other _ _ _ _ (by omega)).trans ((setRow_other _ _ _ _ (by omega)).trans (K6.out.2.1.block q h2))
 refine ⟨C, R, rfl, S2.out _ _ _ _ HC.out.2.2.1 (fun q h1 h2 => hs q (by rw [<- Hg.out]; exact h1) h2) (by rw [setRow_size, setRow_size]; exact K6.out.2.1.size), ?_⟩
 have b0 : Below w.heap.size w w6 := (BW4.out.trans (HC.out.2.2.2.mono (by omega))).trans (K6.out.2.1.mono (Nat.le_trans BW4.out.size l5.out))
 exact below_setRow (below_setRow b0.drew (by have := Hg.out; omega) _) (by have := Hg.out; omega) _
theorem refused_n (k : Int) (w : World) : Calls Tryz.prog 78 #[.int .i64 k] w fun e w' => e = .returned (.agg #[.int .i64 k,.string ⟨#[]⟩]) /\ Hid (Below w.heap.size w w') := by
 go_enter Tryz.func78, Tryz.ntmps78
 go_wp2
 refine bodyPost_ret (results_cell_row Tryz.results78 _ _ w.heap.size 51 #[.int .i64 k,.string ⟨#[]⟩] (0, 0) _ (by rfl) (heap_alloc_new w _) Tryz.underlying51 rfl outZ) rfl ?_
 exact ⟨rfl, alloc1 w _⟩
theorem doneWith_n (s : ByteArray) (w : World) : Calls Tryz.prog 98 #[.string s] w fun e w' => e = .returned (.agg #[.int .i64 0,.string s]) /\ Hid (Below w.heap.size w w') := by
 go_enter Tryz.func98, Tryz.ntmps98
 go_wp2
 refine bodyPost_ret (results_cell_row Tryz.results98 _ _ w.heap.size 51 #[.int .i64 0,.string s] (0, 0) _ (by rfl) (heap_alloc_new w _) Tryz.underlying51 rfl outZ) rfl ?_
 exact ⟨rfl, alloc1 w _⟩
theorem ObO.up {K K' : Nat} {w : World} {lo hi : Nat} {x : Obx} (h : ObO K w lo hi x) (hk : K <= K') : ObO K' w lo hi x := ⟨h.r, h.p, Nat.le_trans h.k hk, h.s⟩
theorem UlO.up {K K' : Nat} {w : World} {lo hi : Nat} {x : Ulx} (h : UlO K w lo hi x) (hk : K <= K') : UlO K' w lo hi x := ⟨h.r, h.p, Nat.le_trans h.k hk, h.s⟩
theorem BkO.up {K K' : Nat} {w : World} {lo hi : Nat} {x : Bkx} (h : BkO K w lo hi x) (hk : K <= K') : BkO K' w lo hi x := ⟨h.o, fun o ho => (h.oo o ho).up hk, h.u, fun u hu => (h.uu u hu).up hk, ⟨Nat.le_trans h.k.1 hk, Nat.le_trans h.k.2 hk⟩, h.s⟩
theorem Rw.setC {α : Type} {E : Enc α} {w : World} {lo hi : Nat} {t : TypeId} {b n c i k : Nat} {l : List α} {x y : α} {v : Value} (h : Rw w lo hi t E (some ⟨b, 0, none⟩) n c l) (hx : l[i]? = some x) (hk : k < E.z) (hv : (E.e x).set k v = E.e y) : Rw (w.setCell ⟨b, i * E.z + k, none⟩ v) lo hi t E (some ⟨b, 0, none⟩) n c (l.set i y) := by
 obtain ⟨hi', rfl⟩ := List.getElem?_eq_some_iff.1 hx
 have hl : (E.fl (l.take i)).length = i * E.z := by rw [E.fl_len, List.length_take, Nat.min_eq_left (by omega)]
 have e : (E.fl l).set (i * E.z + k) v = E.fl (l.set i y) := by
  rw [E.fl_cut l hi', List.set_append_right _ _ (by omega), hl, Nat.add_sub_cancel_left, List.set_append_left _ _ (by rw [E.len]; exact hk), hv, List.set_eq_take_append_cons_drop, if_pos hi', E.fl_app]
  rfl
 refine ⟨?_, h.top, h.pos⟩
 rw [<- e]
 exact row_set h.row _ _
structure Bs (K : Nat) (W : World) (lo hi b n : Nat) (X : List Bkx) (i : Nat) (y : Bkx) : Prop where
 r : Rw W lo hi 65 EBk (some ⟨b, 0, none⟩) n n X
 x : X[i]? = some y
 c : BkC K W lo hi y
section
variable {K : Nat} {W W' : World} {lo hi b n : Nat} {X : List Bkx} {i : Nat} {y : Bkx}
theorem Bs.below (h : Bs K W lo hi b n X i y) (hb : Below W.heap.size W W') : Bs K W' lo hi b n X i y := ⟨h.r.below hb, h.x, bkC_stays K _ _ _ _ _ h.c (fun q _ _ hq => hb.block q hq)⟩
theorem Bs.cell (h : Bs K W lo hi b n X i y) {k : Nat} {v : Value} (hv : (EBk.e y)[k]? = some v) : W.cell? ⟨b, i * 5 + k, none⟩ = some v := by
 obtain ⟨hi', e⟩ := List.getElem?_eq_some_iff.1 h.x
 obtain ⟨g, e2, _, _, hr⟩ := h.r.at_ hi'
 cases e2
 rw [e] at hr
 exact hr k v hv
theorem Bs.c2 (h : Bs K W lo hi b n X i y) : W.cell? ⟨b, i * 5 + 2, none⟩ = some (.int .i64 y.dy) := h.cell rfl
theorem Bs.c3 (h : Bs K W lo hi b n X i y) : W.cell? ⟨b, i * 5 + 3, none⟩ = some (.slice y.oa y.on y.oc) := h.cell rfl
theorem Bs.c4 (h : Bs K W lo hi b n X i y) : W.cell? ⟨b, i * 5 + 4, none⟩ = some (.slice y.ua y.un y.uc) := h.cell rfl
theorem Bs.fz (h : Bs K W lo hi b n X i y) (k : Nat) : W.frozen? ⟨b, i * 5 + k, none⟩ = false := h.r.row.frozenAt _
end
def SB (b : Nat) (y : Bkx) (q : Nat) : Prop := q = b ∨ blkOf y.oa = some q ∨ blkOf y.ua = some q ∨ ∃ u ∈ y.ux, blkOf u.a = some q
def DoR (K : Nat) (W W' : World) (lo hi b n : Nat) (X : List Bkx) (i : Nat) (y : Bkx) (f : Bkd × Outc) (R : Array Value) : Prop :=
 R = #[.int .i64 f.2.code,.string f.2.etag] /\ ∃ z, z.bk = f.1 /\ Rw W' lo hi 65 EBk (some ⟨b, 0, none⟩) n n (X.set i z) /\ BkO (K + 1) W' lo W'.heap.size z /\ Ch W W' (SB b y)
theorem Bs.obs {K : Nat} {W W' : World} {lo hi b n : Nat} {X : List Bkx} {i : Nat} {y : Bkx} (h : Bs K W lo hi b n X i y) (hc : Ch W W' (fun q => blkOf y.oa = some q)) : Rw W' lo hi 65 EBk (some ⟨b, 0, none⟩) n n X /\ (∀ o ∈ y.ox, ObO K W' lo hi o) /\ Rw W' lo hi 77 EUl y.ua y.un y.uc y.ux /\ (∀ u ∈ y.ux, UlO K W' lo hi u) := by
 have hb := h.c.b
 refine ⟨h.r.keep1 (fun q e => hc.block q (h.r.lt e).2 (fun e2 => h.r.apart hb.o (by decide) e e2)), fun o ho => ?_, hb.u.keep1 (fun q e => hc.block q (hb.u.lt e).2 (fun e2 => hb.u.apart hb.o (by decide) e e2)), fun u hu => ?_⟩
 . have h1 := hb.oo o ho
   exact ⟨h1.r.keep1 (fun q e => hc.block q (h1.r.lt e).2 (fun e2 => h1.r.apart hb.o (by decide) e e2)), h1.p, h1.k, h1.s⟩
 . have h1 := hb.uu u hu
   exact ⟨h1.r.keep1 (fun q e => hc.block q (h1.r.lt e).2 (fun e2 => h1.r.apart hb.o (by decide) e e2)), h1.p, h1.k, h1.s⟩
set_option maxHeartbeats 4000000 in
theorem setDays_n {K : Nat} {w : World} {A : Array Value} {x : Cx} {lo hi b n : Nat} {X : List Bkx} {i : Nat} {y : Bkx} (hX : Hid (A = (encX x).toArray)) (hB : Hid (Bs K w lo hi b n X i y)) :
  Calls Tryz.prog 75 #[.pointer (some ⟨b, i * 5, none⟩), .agg A] w fun e w' => ∃ R, e = .returned (.agg R) /\ Hid (DoR K w w' lo hi b n X i y (dayO y.bk x.cm) R) := by
 have a18 : A.size = 18 := encX_sz hX.out
 obtain ⟨w1, Hw1⟩ := nm ((w.alloc (.cells A 29)).alloc (.cells #[.int .i64 0,.string ⟨#[]⟩] 51))
 obtain ⟨g, Hg⟩ := nm (w.heap.size)
 have B1 : Hid (Below w.heap.size w w1) := by rw [<- Hw1.out]; exact alloc2 w _ _
 have kx : Hid (w1.heap[g]? = some (.cells A 29 (0, 0))) := by
  rw [<- Hw1.out, <- Hg.out]
  exact ((alloc1 (w.alloc (.cells A 29)) _).block w.heap.size (by simp)).trans (heap_alloc_new w _)
 have kr : Hid (w1.heap[g + 1]? = some (.cells #[.int .i64 0,.string ⟨#[]⟩] 51 (0, 0))) := by
  rw [<- Hw1.out, <- Hg.out]
  have e : (w.alloc (.cells A 29)).heap.size = w.heap.size + 1 := by simp
  rw [<- e]
  exact heap_alloc_new _ _
 have S1 : Hid (Bs K w1 lo hi b n X i y) := hB.out.below B1.out
 go_enter Tryz.func75, Tryz.ntmps75
 go_upto_region 1 with (fail)
 rw [Hw1.out, Hg.out]
 clear Hw1
 have q1 : w1.cell? ⟨g, 17, none⟩ = some (.int .i64 x.cm.dy) := cell_arr kx.out (by rw [hX.out]; rfl)
 have q2 := S1.out.c2
 have q3 := S1.out.fz 2
 go_upto_region 2 with (fail)
 clear q1 q2 q3
 have R2 : Hid (Rw (w1.setCell ⟨b, i * 5 + 2, none⟩ (.int .i64 x.cm.dy)) lo hi 65 EBk (some ⟨b, 0, none⟩) n n (X.set i { y with dy := x.cm.dy })) := S1.out.r.setC S1.out.x (by decide) rfl
 have nb : Hid (b < w.heap.size) := (hB.out.r.lt (q := b) rfl).2
 have kr2 : Hid ((w1.setCell ⟨b, i * 5 + 2, none⟩ (.int .i64 x.cm.dy)).heap[g + 1]? = some (.cells #[.int .i64 0,.string ⟨#[]⟩] 51 (0, 0))) := (Below.heap_setCell _ _ _ _ (show g + 1 ≠ b by have := Hg.out; have := nb.out; omega)).trans kr.out
 have C2 : Hid (Ch w (w1.setCell ⟨b, i * 5 + 2, none⟩ (.int .i64 x.cm.dy)) (SB b y)) := (Ch.below B1.out).trans ((Ch.set w1 b _ _).weak (fun q _ e => .inl e))
 have BO2 : Hid (BkO K (w1.setCell ⟨b, i * 5 + 2, none⟩ (.int .i64 x.cm.dy)) lo hi y) := by
  have h := S1.out.c.b
  have ap : ∀ (q : Nat) (cs : Array Value) (t : TypeId), t ≠ 65 -> w1.heap[q]? = some (.cells cs t (0, 0)) -> (w1.setCell ⟨b, i * 5 + 2, none⟩ (.int .i64 x.cm.dy)).heap[q]? = w1.heap[q]? := fun q cs t ht hq => Below.heap_setCell _ _ _ _ (fun e => by
   obtain ⟨cur, hc, _⟩ := S1.out.r.blk (q := b) rfl
   rw [e, hc] at hq
   cases hq
   exact ht rfl)
  have kp : ∀ {α : Type} {E : Enc α} {t : TypeId} {a : Option Addr} {m c : Nat} {l : List α}, t ≠ 65 -> Rw w1 lo hi t E a m c l -> Rw (w1.setCell ⟨b, i * 5 + 2, none⟩ (.int .i64 x.cm.dy)) lo hi t E a m c l := fun ht hr => hr.keep1 (fun q e => by
   obtain ⟨cur, hc, _⟩ := hr.blk e
   exact ap q cur _ ht hc)
  exact ⟨kp (by decide) h.o, fun o ho => ⟨kp (by decide) (h.oo o ho).r, (h.oo o ho).p, (h.oo o ho).k, (h.oo o ho).s⟩, kp (by decide) h.u, fun u hu => ⟨kp (by decide) (h.uu u hu).r, (h.uu u hu).p, (h.uu u hu).k, (h.uu u hu).s⟩, h.k, h.s⟩
 obtain ⟨w2, Hw2⟩ := nm (w1.setCell ⟨b, i * 5 + 2, none⟩ (.int .i64 x.cm.dy))
 rw [Hw2.out] at R2 kr2 C2 BO2 ⊢
 clear Hw2
 obtain ⟨R, HR⟩ := nm ((#[.int .i64 0,.string ⟨#[]⟩] : Array Value))
 have a5' : (Tryz.prog.info? 51).map (·.size) = some R.size := by rw [<- HR.out]; exact outZ
 have AA : Hid (R.all (·.oneCell') = true) := (show R.all (·.oneCell') = true by rw [<- HR.out]; kernel_rfl)
 have a6' : Hid (R.size = 2) := (show R.size = 2 by rw [<- HR.out]; rfl)
 go_wp2_with (first
  | (go_at_call 92; refine (done_n _).mono ?_; rintro e w7 ⟨rfl, H7⟩; rw [HR.out]; have r7 := sh H7 kr2)
  | (refine wpList_store_row (by rfl) 51 (.tmp 4) (.tmp 10) (by rfl) (g + 1) R (by rfl) (by rfl) 51 _ r7.out a5' (by rw [a6'.out]; rfl) AA.out ?_))
 refine bodyPost_ret (results_cell_row Tryz.results75 _ _ (g + 1) 51 R (0, 0) _ (by rfl) (setRow_heap _ _ _ _ _ _ r7.out) Tryz.underlying51 rfl a5') rfl ?_
 have ng : Hid (∀ q, q < w2.heap.size -> q ≠ g + 1 -> (w7.setRow (g + 1) R).heap[q]? = w2.heap[q]?) := fun q hq hn => (setRow_other _ _ _ _ hn).trans (H7.out.block q hq)
 have kp : ∀ {α : Type} {E : Enc α} {t : TypeId} {a : Option Addr} {m c lo hi : Nat} {l : List α}, t ≠ 51 -> Rw w2 lo hi t E a m c l -> Rw (w7.setRow (g + 1) R) lo hi t E a m c l := fun ht hr => hr.keep1 (fun q e => by
  obtain ⟨cur, hc, _⟩ := hr.blk e
  refine ng.out q (hr.lt e).2 (fun e2 => ?_)
  rw [e2, kr2.out] at hc
  cases hc
  exact ht rfl)
 refine ⟨R, rfl, HR.out.symm, { y with dy := x.cm.dy }, rfl, kp (by decide) R2.out, ?_, ?_⟩
 . have h := BO2.out.up (Nat.le_succ K)
   exact ⟨(kp (by decide) h.o).full, fun o ho => ⟨(kp (by decide) (h.oo o ho).r).full, (h.oo o ho).p, (h.oo o ho).k, (h.oo o ho).s⟩, (kp (by decide) h.u).full, fun u hu => ⟨(kp (by decide) (h.uu u hu).r).full, (h.uu u hu).p, (h.uu u hu).k, (h.uu u hu).s⟩, h.k, h.s⟩
 . exact Ch.then (T := fun q => q = g + 1) (C2.out.trans (Ch.below H7.out)) ⟨rfl, rfl, rfl, by rw [setRow_size]; exact Nat.le_refl _, fun k hk2 hn => setRow_other _ _ _ _ hn⟩ (fun q _ h => h) (fun q hq e => by have := Hg.out; omega)
def sumL (l : List Pcd) : List Nat := l.flatMap (fun p => Sh.bytesOf p.et)
def sumO (l : List Pcd) : ByteArray := Sh.spell (Sh.hexL (Sh.Gs.sum (sumL l))) ++ ⟨#[45]⟩ ++ Sh.itS (l.length : Int)
theorem sumL_snoc (l : List Pcd) (p : Pcd) : sumL (l ++ [p]) = sumL l ++ Sh.bytesOf p.et := by simp [sumL]
theorem sumL_len (l : List Pcd) (K : Nat) (h : ∀ p ∈ l, p.et.size <= K) : (sumL l).length <= l.length * K := by
 induction l with
 | nil => simp [sumL]
 | cons p l ih =>
   have h1 := ih (fun q hq => h q (by simp [hq]))
   have h2 := h p (by simp)
   have e : (sumL (p :: l)).length = p.et.size + (sumL l).length := by simp [sumL, Sh.bytesOf_length]
   rw [e, List.length_cons, Nat.succ_mul]
   omega
structure Su (w W : World) (g : Nat) (l : List Pcd) (i : Nat) : Prop where
 h : Sh.HS W g (sumL (l.take i))
 b : Below w.heap.size w W
theorem inz26s : (Tryz.prog.info? 26).map (·.size) = some 5 := by kernel_rfl
theorem inz166 : (Tryz.prog.info? 166).map (·.size) = some 32 := by kernel_rfl
set_option maxHeartbeats 8000000 in
theorem sum_n {w : World} {lo hi : Nat} {a : Option Addr} {n c : Nat} {l : List Pcd} (hA : Hid (Rw w lo hi 26 EPc a n c l)) (hn : n <= 16) (hp : Hid (∀ p ∈ l, p.et.size <= 140737488352256)) (hK : Hid (Sh.Kst w)) (h0 : Hid (20 < w.heap.size)) (hT : Hid (Sh.Tab w)) :
  Calls Tryz.prog 105 #[.slice a n c] w fun e w' => e = .returned (.string (sumO l)) /\ Hid (Below w.heap.size w w') := by
 have LX : Hid (n = l.length) := hA.out.len
 go_enter Tryz.func105, Tryz.ntmps105
 go_wp2_with (go_at_call 125; refine (Sh.new_n w).mono ?_; rintro e w1 ⟨g, rfl, H1⟩)
 have B1 : Hid (Below w.heap.size w w1) := H1.out.2.2
 have S1 : Hid (Su w w1 g l 0) := ⟨H1.out.2.1, H1.out.2.2⟩
 have Hge : Hid (w.heap.size <= g) := H1.out.1
 clear H1
 go_loopw [10] (fun t10 wr => ∃ i : Nat, i <= n /\ t10 = .int .i64 i /\ Hid (Su w wr g l i)) (fun t10 _ => n - (intOf t10).toNat)
 case atStart => exact ⟨0, by omega, rfl, S1⟩
 case round =>
  obtain ⟨i, hin, rfl, HS⟩ := hrel
  by_cases hlt : i < n
  . have i3 : (i : Int) < (n : Int) := by omega
    have kx : i < l.length := by rw [<- LX.out]; exact hlt
    obtain ⟨b1, rfl, _, _, e1⟩ := (hA.out.below HS.out.b).at_ kx
    obtain ⟨p, Hx⟩ := nm (l[i])
    rw [Hx.out] at e1
    have E1 : Hid (wr.rangeAt b1 (i * 5) (EPc.e p)) := e1
    have EX : Hid (l[i]? = some p) := by show _ = _; rw [<- Hx.out]; exact List.getElem?_eq_getElem kx
    have PS : Hid (p.et.size <= 140737488352256) := hp.out p (List.mem_of_getElem? EX.out)
    obtain ⟨A, HA⟩ : ∃ A, Hid (A = (EPc.e p).toArray) := ⟨_, rfl⟩
    have az : A.size = 5 := arr_sz HA.out
    have ai : (Tryz.prog.info? 26).map (·.size) = some A.size := by rw [az]; exact inz26s
    have AA : Hid (A.all (·.oneCell') = true) := arr_all HA.out
    obtain ⟨w3, Hw3, K3⟩ := box_any wr 26 #[.int .i64 0,.int .i64 0,.int .i64 0,.int .i64 0,.string ⟨#[]⟩] A
    obtain ⟨g1, Hg1⟩ := nm (wr.heap.size)
    clear Hx kx e1
    go_upto_region 5 with first
     | (refine wpList_load_mid (by rfl) 26 (.tmp 12) (by rfl) b1 (i * 5) (by rfl) (EPc.e p) _ E1.out Tryz.underlying26 rfl (by rw [EPc.len]; exact inz26s) ?_; rw [<- HA.out])
     | (refine wpList_store_row (by rfl) 26 (.tmp 5) (.tmp 13) (by rfl) wr.heap.size A (by rfl) (by rfl) 26 _ (heap_alloc_new wr _) ai (by rw [az]; rfl) AA.out ?_)
    rw [Hw3.out, Hg1.out]
    have k3 : Hid (w3.heap[g1]? = some (.cells A 26 (0, 0))) := by rw [<- Hg1.out]; exact K3.out.1
    have B3 : Hid (Below wr.heap.size wr w3) := K3.out.2.1
    have q4 : w3.cell? ⟨g1, 4, none⟩ = some (.string p.et) := cell_arr k3.out (by rw [HA.out]; rfl)
    have CV := Sh.run_cv w3 p.et
    obtain ⟨w4, Hw4⟩ := nm (Sh.cvW w3 p.et)
    obtain ⟨g4, Hg4⟩ := nm (w3.heap.size)
    obtain ⟨m, Hm⟩ := nm (p.et.size)
    obtain ⟨c4, Hc4⟩ := nm (Sh.cvC w3 p.et)
    have B4 : Hid (Below w3.heap.size w3 w4) := by rw [<- Hw4.out]; exact Sh.cvW_below w3 p.et
    have SL : Hid (Sh.Sln w4 (some ⟨g4, 0, none⟩) m (Sh.bytesOf p.et)) := by rw [<- Hw4.out, <- Hg4.out, <- Hm.out]; exact Sh.cvW_sln w3 p.et PS.out
    have mc : m <= c4 := by rw [<- Hm.out, <- Hc4.out]; exact Sh.cvC_ge w3 p.et
    have B34 := bt B3 B4
    have Bw4 : Hid (Below w.heap.size w w4) := HS.out.b.trans (B34.out.mono HS.out.b.size)
    have H4 : Hid (Sh.HS w4 g (sumL (l.take i))) := HS.out.h.below B34.out
    have K4 : Hid (Sh.Kst w4) := hK.out.below Bw4.out (by have := h0.out; omega)
    have hz : 19 < w4.heap.size := by have := h0.out; have := Bw4.out.size; omega
    have hg9 : g ≠ 19 := by have := h0.out; have := Hge.out; omega
    have gl : Hid (g < wr.heap.size) := HS.out.h.h.lt
    have AP : Hid (∀ b off, Sh.bytesOf p.et ≠ [] -> (some ⟨g4, 0, none⟩ : Option Addr) = some ⟨b, off, none⟩ -> b ≠ g) := fun b off _ e => by
     cases e
     have h1 := Hg4.out
     have h2 := B3.out.size
     have h3 := gl.out
     omega
    have LN : Hid ((sumL (l.take i)).length + (Sh.bytesOf p.et).length < 4611686018427387904) := by
     show _ < _
     have h1 := sumL_len (l.take i) 140737488352256 (fun q hq => hp.out q (List.mem_of_mem_take hq))
     have h2 : (l.take i).length <= 16 := by rw [List.length_take]; omega
     have h3 := PS.out
     rw [Sh.bytesOf_length]
     have h4 : (l.take i).length * 140737488352256 <= 16 * 140737488352256 := Nat.mul_le_mul_right _ h2
     omega
    rw [Hw4.out, Hg4.out, Hm.out, Hc4.out] at CV
    clear K3 Hw3 E1
    go_wp2_with (go_at_call 126; refine (Sh.write_n w4 g m c4 (sumL (l.take i)) (Sh.bytesOf p.et) (some ⟨g4, 0, none⟩) H4 SL mc AP K4 hz hg9 LN).mono ?_; rintro e w5 ⟨rfl, H5⟩)
    have S5 : Hid (Su w w5 g l (i + 1)) := by
     refine ⟨?_, Sh.But.below Bw4.out H5.out.2 Hge.out Bw4.out.size⟩
     rw [List.take_add_one, EX.out]
     show Sh.HS w5 g (sumL (l.take i ++ [p]))
     rw [sumL_snoc]
     exact H5.out.1
    go_roundw
    case rel => exact ⟨i + 1, by omega, by go_num, S5⟩
    case measure => simp [intOf]; omega
  . have ein : i = n := by omega
    subst ein
    have HH : Hid (Sh.HS wr g (sumL l)) := by have h := HS.out.h; rw [List.take_of_length_le (by have := LX.out; omega)] at h; exact h
    have BB : Hid (Below w.heap.size w wr) := HS.out.b
    have K4 : Hid (Sh.Kst wr) := hK.out.below BB.out (by have := h0.out; omega)
    have hz : Hid (19 < wr.heap.size) := by have := h0.out; have := BB.out.size; show _ < _; omega
    have T4 : Hid (Sh.Tab wr) := hT.out.below BB.out
    have LN : Hid ((sumL l).length < 4611686018427387904) := by
     show _ < _
     have h1 := sumL_len l 140737488352256 hp.out
     have h2 : l.length <= 16 := by rw [<- LX.out]; exact hn
     have h4 : l.length * 140737488352256 <= 16 * 140737488352256 := Nat.mul_le_mul_right _ h2
     omega
    clear HS
    go_upto_region 8 with (first
     | (go_at_call 127; refine (Sh.hsum_n wr g (sumL l) HH K4 hz LN).mono ?_; rintro e w6 ⟨d, rfl, H6⟩
        have L6 : Hid (d.length = 32) := (by rw [H6.out.1]; exact Sh.sum_length _)
        have N6 : Hid (Sh.Arr .u8 166 (w6.alloc (.cells (Sh.cs .u8 Sh.Zb32) 166)) w6.heap.size Sh.Zb32) := Sh.Arr.new w6 .u8 166 Sh.Zb32
        obtain ⟨w7, W7⟩ := nm ((w6.alloc (.cells (Sh.cs .u8 Sh.Zb32) 166)).setRow w6.heap.size (Sh.cs .u8 d)))
     | (refine Sh.wpList_st0 (t := 166) (l := Sh.Zb32) (l2 := d) (by rfl) (by rfl) 166 (.tmp 6) (.tmp 21) (by rfl) (by rfl) (by rfl) N6 (by rw [L6.out]; exact inz166) (by rw [L6.out]; rfl) ?_; refine (show _ = w7 from W7.out) ▸ ?_))
    obtain ⟨g6, Hg6⟩ := nm (w6.heap.size)
    have A7 : Hid (Sh.Arr .u8 166 w7 g6 d) := by rw [<- W7.out, <- Hg6.out]; exact N6.out.setRow d
    have B7 : Hid (Below w6.heap.size w6 w7) := by rw [<- W7.out]; exact below_setRow (alloc1 w6 _) (Nat.le_refl _) _
    have BW7 : Hid (Below w.heap.size w w7) := (BB.out.trans (H6.out.2.mono BB.out.size)).trans (B7.out.mono (Nat.le_trans BB.out.size H6.out.2.size))
    have S7 : Hid (Sh.Sln w7 (some ⟨g6, 0, none⟩) 32 d) := by
     have h := Sh.arr_sln A7.out (by rw [H6.out.1]; exact Sh.sum_lt _) 32 (by rw [L6.out]; omega) (by omega)
     rw [List.take_of_length_le (by rw [L6.out]; omega)] at h
     exact h
    have T7 : Hid (Sh.Tab w7) := hT.out.below BW7.out
    have HD : Hid (d = Sh.Gs.sum (sumL l)) := H6.out.1
    have N7 : Hid (Sh.spell (Sh.hexL d) ++ ⟨#[45]⟩ ++ Sh.itS (i : Int) = sumO l) := by show _ = _; unfold sumO; rw [HD.out, LX.out]
    rw [Hg6.out]
    clear N6 W7 H6 HH
    go_wp2_with (first
     | (go_at_call 128; refine (Sh.hex_n (k := 32) S7 (by omega)).mono ?_; rintro e w8 ⟨t8, rfl, H8⟩; have T8 : Hid (Sh.Tab w8) := T7.out.below H8.out.2; have z8 : t8.size = 64 := (by rw [H8.out.1, Sh.spell_size, Sh.hexL_length, L6.out]); have z9 : ¬ 9223372036854775807 < t8.size + 1 := (by omega); have z10 : ¬ 9223372036854775807 < t8.size + 1 + (Sh.itS (i : Int)).size := (by have h := Sh.itS_size (i : Int) (by omega) (by omega); omega); clear z8)
     | (go_at_call 129; refine (Sh.itoa_n (i : Int) (by omega) (by omega) T8).mono ?_; rintro e w9 ⟨rfl, H9⟩))
    go_ret
    have e8 := H8.out.1
    subst e8
    exact ⟨by rw [<- N7.out]; rfl, (BW7.out.trans (H8.out.2.mono BW7.out.size)).trans (H9.out.1.mono (Nat.le_trans BW7.out.size H8.out.2.size))⟩
section
variable {W W' : World} {p : Nat} {cs : Array Value} {t' : TypeId}
theorem Rw.off {α : Type} {E : Enc α} {t : TypeId} {a : Option Addr} {m c lo hi : Nat} {l : List α} (hr : Rw W lo hi t E a m c l) (hb : ∀ q, q < W.heap.size -> q ≠ p -> W'.heap[q]? = W.heap[q]?) (hp : W.heap[p]? = some (.cells cs t' (0, 0))) (ht : t' ≠ t) : Rw W' lo hi t E a m c l := hr.keep1 (fun q e => by
 obtain ⟨cur, hc, _⟩ := hr.blk e
 refine hb q (hr.lt e).2 (fun e2 => ?_)
 rw [e2, hp] at hc
 cases hc
 exact ht rfl)
theorem BkO.off {K lo hi : Nat} {z : Bkx} (h : BkO K W lo hi z) (hb : ∀ q, q < W.heap.size -> q ≠ p -> W'.heap[q]? = W.heap[q]?) (hp : W.heap[p]? = some (.cells cs t' (0, 0))) (ht : t' ≠ 71 /\ t' ≠ 77 /\ t' ≠ 26 /\ t' ≠ 108) : BkO K W' lo hi z :=
 ⟨h.o.off hb hp ht.1, fun o ho => ⟨(h.oo o ho).r.off hb hp ht.2.2.1, (h.oo o ho).p, (h.oo o ho).k, (h.oo o ho).s⟩, h.u.off hb hp ht.2.1, fun u hu => ⟨(h.uu u hu).r.off hb hp ht.2.2.2, (h.uu u hu).p, (h.uu u hu).k, (h.uu u hu).s⟩, h.k, h.s⟩
theorem BkO.full {K lo hi : Nat} {z : Bkx} (h : BkO K W lo hi z) : BkO K W lo W.heap.size z :=
 ⟨h.o.full, fun o ho => ⟨(h.oo o ho).r.full, (h.oo o ho).p, (h.oo o ho).k, (h.oo o ho).s⟩, h.u.full, fun u hu => ⟨(h.uu u hu).r.full, (h.uu u hu).p, (h.uu u hu).k, (h.uu u hu).s⟩, h.k, h.s⟩
end
theorem do_end {K : Nat} {w w3 w7 : World} {lo hi h3 b n : Nat} {X : List Bkx} {i g : Nat} {y z : Bkx} {f : Bkd × Outc} {R : Array Value} {cs : Array Value} (hR : R = #[.int .i64 f.2.code,.string f.2.etag]) (hz : z.bk = f.1) (R3 : Rw w3 lo hi 65 EBk (some ⟨b, 0, none⟩) n n (X.set i z)) (BO3 : BkO (K + 1) w3 lo h3 z) (C3 : Ch w w3 (SB b y)) (H7 : Below w3.heap.size w3 w7) (kr : w3.heap[g]? = some (.cells cs 51 (0, 0))) (hg : w.heap.size <= g) : DoR K w (w7.setRow g R) lo hi b n X i y f R := by
 have ng : ∀ q, q < w3.heap.size -> q ≠ g -> (w7.setRow g R).heap[q]? = w3.heap[q]? := fun q hq hn => (setRow_other _ _ _ _ hn).trans (H7.block q hq)
 refine ⟨hR, z, hz, R3.off ng kr (by decide), (BO3.off ng kr (by decide)).full, ?_⟩
 exact Ch.then (T := fun q => q = g) (C3.trans (Ch.below H7)) ⟨rfl, rfl, rfl, by rw [setRow_size]; exact Nat.le_refl _, fun k hk2 hn => setRow_other _ _ _ _ hn⟩ (fun q _ h => h) (fun q hq e => by omega)
theorem do_objs {K : Nat} {w W W2 : World} {lo hi h2 b n : Nat} {X : List Bkx} {i : Nat} {y : Bkx} {a' : Option Addr} {n' c' : Nat} {Y : List Obx} (hS : Bs K W lo hi b n X i y) (B1 : Below w.heap.size w W) (hc : Ch W W2 (fun q => blkOf y.oa = some q)) (RN : Rw W2 lo h2 71 EOb a' n' c' Y) (OY : ∀ o ∈ Y, ObO (K + 1) W2 lo h2 o) (hn' : n' <= K + 1) (hh : hi <= h2) :
  Rw (W2.setCell ⟨b, i * 5 + 3, none⟩ (.slice a' n' c')) lo hi 65 EBk (some ⟨b, 0, none⟩) n n (X.set i { y with oa := a', on := n', oc := c', ox := Y }) /\ BkO (K + 1) (W2.setCell ⟨b, i * 5 + 3, none⟩ (.slice a' n' c')) lo h2 { y with oa := a', on := n', oc := c', ox := Y } /\ Ch w (W2.setCell ⟨b, i * 5 + 3, none⟩ (.slice a' n' c')) (SB b y) := by
 obtain ⟨r1, r2, r3, r4⟩ := hS.obs hc
 obtain ⟨cur, hcur, _⟩ := r1.blk (q := b) rfl
 have hb : ∀ q, q < W2.heap.size -> q ≠ b -> (W2.setCell ⟨b, i * 5 + 3, none⟩ (.slice a' n' c')).heap[q]? = W2.heap[q]? := fun q _ hq => Below.heap_setCell _ _ _ _ hq
 have k := hS.c.b
 refine ⟨r1.setC hS.x (by decide) rfl, ?_, ?_⟩
 . have bo : BkO (K + 1) W2 lo h2 { y with oa := a', on := n', oc := c', ox := Y } := ⟨RN, OY, r3.mono (Nat.le_refl _) hh, fun u hu => ((r4 u hu).up (Nat.le_succ K)).mono (Nat.le_refl _) hh, ⟨hn', Nat.le_trans k.k.2 (Nat.le_succ K)⟩, k.s⟩
   exact bo.off hb hcur (by decide)
 . exact ((Ch.below B1).trans (hc.weak (fun q _ e => .inr (.inl e)))).trans ((Ch.set W2 b _ _).weak (fun q _ e => .inl e))
theorem row3 {W : World} {lo hi b n c i : Nat} {X : List Bkx} {y : Bkx} (h : Rw W lo hi 65 EBk (some ⟨b, 0, none⟩) n c X) (hx : X[i]? = some y) : W.cell? ⟨b, i * 5 + 3, none⟩ = some (.slice y.oa y.on y.oc) := by
 obtain ⟨hi', e⟩ := List.getElem?_eq_some_iff.1 hx
 obtain ⟨g, e2, _, _, hr⟩ := h.at_ hi'
 cases e2
 rw [e] at hr
 exact hr 3 _ rfl
theorem outX_mem {α δ : Type} {c : δ -> Int} {d : α -> δ} {X : List α} {o : α} (h : o ∈ outX c d X) : o ∈ X := by
 unfold outX at h
 split at h
 . exact List.mem_of_mem_eraseIdx h
 . exact h
theorem outX_len {α δ : Type} (c : δ -> Int) (d : α -> δ) (X : List α) : (outX c d X).length <= X.length := by
 unfold outX
 split
 . rw [List.length_eraseIdx]; split <;> omega
 . exact Nat.le_refl _
set_option maxHeartbeats 8000000 in
theorem deleteObject_n {K : Nat} (hK : K <= 1048576) {w : World} {A : Array Value} {x : Cx} {lo hi b n : Nat} {X : List Bkx} {i : Nat} {y : Bkx} (hX : Hid (A = (encX x).toArray)) (hB : Hid (Bs K w lo hi b n X i y)) :
  Calls Tryz.prog 69 #[.pointer (some ⟨b, i * 5, none⟩), .agg A] w fun e w' => ∃ R, e = .returned (.agg R) /\ Hid (DoR K w w' lo hi b n X i y (delO y.bk x.cm) R) := by
 have a18 : A.size = 18 := encX_sz hX.out
 obtain ⟨w1, Hw1⟩ := nm ((w.alloc (.cells A 29)).alloc (.cells #[.int .i64 0,.string ⟨#[]⟩] 51))
 obtain ⟨g, Hg⟩ := nm (w.heap.size)
 have B1 : Hid (Below w.heap.size w w1) := by rw [<- Hw1.out]; exact alloc2 w _ _
 have kx : Hid (w1.heap[g]? = some (.cells A 29 (0, 0))) := by
  rw [<- Hw1.out, <- Hg.out]
  exact ((alloc1 (w.alloc (.cells A 29)) _).block w.heap.size (by simp)).trans (heap_alloc_new w _)
 have kr : Hid (w1.heap[g + 1]? = some (.cells #[.int .i64 0,.string ⟨#[]⟩] 51 (0, 0))) := by
  rw [<- Hw1.out, <- Hg.out]
  have e : (w.alloc (.cells A 29)).heap.size = w.heap.size + 1 := by simp
  rw [<- e]
  exact heap_alloc_new _ _
 have S1 : Hid (Bs K w1 lo hi b n X i y) := hB.out.below B1.out
 go_enter Tryz.func69, Tryz.ntmps69
 go_upto_region 1 with (fail)
 rw [Hw1.out, Hg.out]
 clear Hw1
 have A5 : Hid (A[5]? = some (.string x.cm.ke)) := by rw [hX.out]; rfl
 obtain ⟨wd, Hwd⟩ := nm (w1.drew)
 have BD : Hid (Below w.heap.size w wd) := by rw [<- Hwd.out]; exact B1.out.drew
 have SD : Hid (Bs K wd lo hi b n X i y /\ wd.heap[g]? = some (.cells A 29 (0, 0))) := by rw [<- Hwd.out]; exact ⟨⟨S1.out.r.keep (fun _ _ _ _ => rfl), S1.out.x, bkC_stays K _ _ _ _ _ S1.out.c (fun _ _ _ _ => rfl)⟩, kx.out⟩
 have KRD : Hid (wd.heap[g + 1]? = some (.cells #[.int .i64 0,.string ⟨#[]⟩] 51 (0, 0))) := by rw [<- Hwd.out]; exact kr.out
 have OC : Hid (y.oc = y.on) := SD.out.1.c.c.1
 have OW1 : Hid (Rw wd lo hi 71 EOb y.oa y.on y.on y.ox) := by have h := SD.out.1.c.b.o; rw [OC.out] at h; exact h
 have hoK : y.on <= 1048576 := Nat.le_trans SD.out.1.c.b.k.1 hK
 refine wp_region_till (S := tillP 7 (fun W => Bs K W lo hi b n X i y /\ W.heap[g]? = some (.cells A 29 (0, 0)))) (by kernel_rfl) (.inr (by rw [Hwd.out]; exact SD.out)) (fun hS => ?_)
 rw [Hwd.out] at hS ⊢
 refine tkp (i := 0) (v := .pointer (some ⟨b, i * 5, none⟩)) rfl hS (fun hSb => ?_)
 simp only [pA,pB,pC,Act.put,pD,pE,pF]
 clear hS
 refine tkp (i := 1) (v := .pointer (some ⟨b, i * 5, none⟩)) rfl hSb (fun hS => ?_)
 simp only [pA,pB,pC,Act.put,pD,pE,pF]
 clear hSb
 refine tkp (i := 2) (v := .pointer (some ⟨b, i * 5, none⟩)) rfl hS (fun hSb => ?_)
 simp only [pA,pB,pC,Act.put,pD,pE,pF]
 clear hS
 refine tkp (i := 3) (v := .pointer (some ⟨b, i * 5 + 3, none⟩)) rfl hSb (fun hS => ?_)
 simp only [pA,pB,pC,Act.put,pD,pE,pF]
 clear hSb
 refine trd (i := 4) (c := 7) (v := .slice y.oa y.on y.oc) (T := fun W => Bs K W lo hi b n X i y /\ W.heap[g]? = some (.cells A 29 (0, 0))) rfl rfl (fun L w => tillP_set (by decide)) (fun L w h1 h2 => tillP_out h1 h2) (Or.inl ⟨by rfl, fun w h => by have q9 := h.1.c3; go_simp⟩) hS (fun hSb => ?_)
 simp only [pA,pB,pC,Act.put,pD,pE,pF]
 clear hS
 refine tkp (i := 5) (v := .pointer (some ⟨g, 5, none⟩)) rfl hSb (fun hS => ?_)
 simp only [pA,pB,pC,Act.put,pD,pE,pF]
 clear hSb
 refine trd (i := 6) (c := 7) (v := .string x.cm.ke) (T := fun W => Bs K W lo hi b n X i y /\ W.heap[g]? = some (.cells A 29 (0, 0))) rfl rfl (fun L w => tillP_set (by decide)) (fun L w h1 h2 => tillP_out h1 h2) (Or.inl ⟨by rfl, fun w h => by have q9 := cell_arr h.2 A5.out; go_simp⟩) hS (fun hSb => ?_)
 simp only [pA,pB,pC,Act.put,pD,pE,pF]
 clear hS
 refine till_one (i := 7) (by kernel_rfl) rfl (fun K hK => ?_)
 simp only [pA,pB,pC]
 rw [if_pos (by rfl)]
 go_simp
 rw [OC.out]
 go_wp2_with (go_at_call 99; refine (out_O x.cm.ke OW1 hoK).mono ?_; rintro e w5 ⟨n5, rfl, H5⟩)
 have S5 := (SD.out.1.obs H5.out.2).1
 have q3 := row3 S5 SD.out.1.x
 have f3 := S5.row.frozenAt (i * 5 + 3)
 refine hK.out _ _ (Or.inl (by kernel_rfl)) (fun hS => ?_)
 clear hK K
 try simp only [pA,pB,pC,Act.put,pD,pE,pF]
 clear hSb
 refine tkp (i := 8) (v := .pointer (some ⟨b, i * 5, none⟩)) rfl hS (fun hSb => ?_)
 simp only [pA,pB,pC,Act.put,pD,pE,pF]
 clear hS
 refine tkp (i := 9) (v := .pointer (some ⟨b, i * 5 + 3, none⟩)) rfl hSb (fun hS => ?_)
 simp only [pA,pB,pC,Act.put,pD,pE,pF]
 clear hSb
 refine till_one (i := 10) (by kernel_rfl) rfl (fun K hK => ?_)
 simp only [pA,pB,pC]
 rw [if_pos (by rfl)]
 go_simp
 refine hK.out _ _ (Or.inl (by kernel_rfl)) (fun hSb => ?_)
 clear hK K
 try simp only [pA,pB,pC,Act.put,pD,pE,pF]
 clear hS
 refine till_done (by kernel_rfl) ?_ _
 clear hSb
 show (Exit.then _ _) .normal _ _
 have HH := do_objs (K := K) (h2 := hi) SD.out.1 BD.out H5.out.2 H5.out.1 (fun o ho => ((SD.out.1.obs H5.out.2).2.1 o (outX_mem ho)).up (Nat.le_succ K)) (by have h1 := H5.out.1.len; have h2 := outX_len (byK x.cm.ke) Obx.ob y.ox; have h3 := OW1.out.len; have h4 := SD.out.1.c.b.k.1; omega) (Nat.le_refl _)
 have R3 : Hid _ := HH.1
 have BO3 : Hid _ := HH.2.1
 have C3 : Hid _ := HH.2.2
 have kr3 : Hid ((w5.setCell ⟨b, i * 5 + 3, none⟩ (.slice y.oa n5 y.on)).heap[g + 1]? = some (.cells #[.int .i64 0,.string ⟨#[]⟩] 51 (0, 0))) := by
  refine (Below.heap_setCell _ _ _ _ (fun e => ?_)).trans ((H5.out.2.block (g + 1) (gl KRD.out) (fun e => ?_)).trans KRD.out)
  . obtain ⟨cur, hc, _⟩ := SD.out.1.r.blk (q := b) rfl
    have h := KRD.out
    rw [e, hc] at h
    cases h
  . obtain ⟨cur, hc, _⟩ := OW1.out.blk e
    have h := KRD.out
    rw [hc] at h
    cases h
 have ZB : Hid (Bkx.bk { y with oa := y.oa, on := n5, oc := y.on, ox := outX (byK x.cm.ke) Obx.ob y.ox } = (delO y.bk x.cm).1) := by
  show _ = _
  simp only [Bkx.bk, delO, outX_map]
 obtain ⟨w3, Hw3⟩ := nm (w5.setCell ⟨b, i * 5 + 3, none⟩ (.slice y.oa n5 y.on))
 rw [Hw3.out] at R3 BO3 C3 kr3 ⊢
 clear Hw3 HH H5 q3 f3 S5
 obtain ⟨R, HR⟩ := nm ((#[.int .i64 0,.string ⟨#[]⟩] : Array Value))
 have a5' : (Tryz.prog.info? 51).map (·.size) = some R.size := by rw [<- HR.out]; exact outZ
 have AA : Hid (R.all (·.oneCell') = true) := (show R.all (·.oneCell') = true by rw [<- HR.out]; kernel_rfl)
 have a6' : Hid (R.size = 2) := (show R.size = 2 by rw [<- HR.out]; rfl)
 go_wp2_with (first
  | (go_at_call 92; refine (done_n _).mono ?_; rintro e w7 ⟨rfl, H7⟩; rw [HR.out]; have r7 := sh H7 kr3)
  | (refine wpList_store_row (by rfl) 51 (.tmp 4) (.tmp 15) (by rfl) (g + 1) R (by rfl) (by rfl) 51 _ r7.out a5' (by rw [a6'.out]; rfl) AA.out ?_))
 refine bodyPost_ret (results_cell_row Tryz.results69 _ _ (g + 1) 51 R (0, 0) _ (by rfl) (setRow_heap _ _ _ _ _ _ r7.out) Tryz.underlying51 rfl a5') rfl ?_
 exact ⟨R, rfl, do_end (g := g + 1) HR.out.symm ZB.out R3.out BO3.out C3.out H7.out kr3.out (by have := Hg.out; omega)⟩
set_option maxHeartbeats 4000000 in
theorem hasRoom_n {K : Nat} (hK : K <= 1048576) {w : World} {lo hi b n : Nat} {X : List Bkx} {i : Nat} {y : Bkx} (s : ByteArray) (hB : Hid (Bs K w lo hi b n X i y)) :
  Calls Tryz.prog 95 #[.pointer (some ⟨b, i * 5, none⟩),.string s] w fun e w' => e = .returned (.bool (roomO y.bk s)) /\ Hid (Below w.heap.size w w') := by
 have q3 := hB.out.c3
 have OW : Hid (Rw w lo hi 71 EOb y.oa y.on y.oc y.ox) := hB.out.c.b.o
 have hoK : y.on <= 1048576 := Nat.le_trans hB.out.c.b.k.1 hK
 have LO : Hid (y.ox.length = y.on) := OW.out.len.symm
 obtain ⟨pl, Hpl⟩ := nm (plcB (byK s) (y.ox.map Obx.ob))
 go_enter Tryz.func95, Tryz.ntmps95
 by_cases hb : isB (byK s) (y.ox.map Obx.ob) = true
 . have HS : Hid (isB (byK s) (y.ox.map Obx.ob) = true) := hb
   have HR : Hid (roomO y.bk s = true) := by show _ = _; unfold roomO Bkx.bk; simp only; rw [HS.out]; rfl
   clear hb
   go_wp2_with (go_at_call 52; refine (findO s OW hoK).mono ?_; rintro e w2 ⟨rfl, H2⟩; rw [HS.out, Hpl.out])
   go_ret
   exact ⟨by rw [HR.out]; rfl, H2.out⟩
 . have HS : Hid (isB (byK s) (y.ox.map Obx.ob) = false) := Bool.eq_false_iff.2 hb
   have HR : Hid (roomO y.bk s = decide ((y.on : Int) < 128)) := by
    show _ = _
    unfold roomO Bkx.bk
    simp only
    rw [HS.out, Bool.false_or, List.length_map, LO.out]
    exact decide_eq_decide.2 (by omega)
   clear hb
   go_upto_region 2 with (go_at_call 52; refine (findO s OW hoK).mono ?_; rintro e w2 ⟨rfl, H2⟩; rw [HS.out, Hpl.out])
   clear q3
   have q4 := (hB.out.below H2.out).c3
   go_wp2
   go_ret
   exact ⟨by rw [HR.out]; rfl, H2.out⟩
theorem sizO_snoc {l : List Pcd} {t : Nat} {p : Pcd} (h : l[t]? = some p) : sizO (l.take (t + 1)) = IntKind.i64.wrap (sizO (l.take t) + p.sz) := by
 unfold sizO
 rw [List.take_add_one, h, List.foldl_append]
 rfl
set_option maxHeartbeats 4000000 in
theorem sizeOf_n {w : World} {lo hi : Nat} {a : Option Addr} {n c : Nat} {l : List Pcd} (hA : Hid (Rw w lo hi 26 EPc a n c l)) (hn : n <= 1048576) :
  Calls Tryz.prog 119 #[.slice a n c] w fun e w' => e = .returned (.int .i64 (sizO l)) /\ Hid (Below w.heap.size w w') := by
 have LX : Hid (n = l.length) := hA.out.len
 go_enter Tryz.func119, Tryz.ntmps119
 go_wp2
 go_loopw [3, 8] (fun t3 t8 wr => ∃ (t : Nat) (s : Int), t <= n /\ t8 = .int .i64 t /\ t3 = .int .i64 s /\ Hid (sizO (l.take t) = s) /\ Hid (Below w.heap.size w wr)) (fun _ t8 _ => n - (intOf t8).toNat)
 case atStart => exact ⟨0, 0, by omega, rfl, rfl, rfl, Below.refl _ _⟩
 case round =>
  obtain ⟨t, s, ht, rfl, rfl, HK, HB⟩ := hrel
  by_cases hlt : t < n
  . have i3 : (t : Int) < (n : Int) := by omega
    have kx : t < l.length := by rw [<- LX.out]; exact hlt
    obtain ⟨b1, rfl, _, _, e1⟩ := (hA.out.below HB.out).at_ kx
    obtain ⟨x, Hx⟩ := nm (l[t])
    rw [Hx.out] at e1
    have EX : Hid (l[t]? = some x) := by show _ = _; rw [<- Hx.out]; exact List.getElem?_eq_getElem kx
    obtain ⟨A, HA⟩ : ∃ A, Hid (A = (EPc.e x).toArray) := ⟨_, rfl⟩
    have az : A.size = 5 := arr_sz HA.out
    have ai : (Tryz.prog.info? 26).map (·.size) = some A.size := by rw [az]; exact inz26
    have AA : Hid (A.all (·.oneCell') = true) := arr_all HA.out
    have E1 : Hid (wr.rangeAt b1 (t * 5) (EPc.e x)) := e1
    obtain ⟨w2, Hw2, K2⟩ := box_any wr 26 #[.int .i64 0,.int .i64 0,.int .i64 0,.int .i64 0,.string ⟨#[]⟩] A
    obtain ⟨g1, Hg1⟩ := nm (wr.heap.size)
    clear e1 Hx kx
    go_upto_region 5 with first
     | (refine wpList_load_mid (by rfl) 26 (.tmp 10) (by rfl) b1 (t * 5) (by rfl) (EPc.e x) _ E1.out Tryz.underlying26 rfl (by rw [EPc.len]; exact inz26) ?_; rw [<- HA.out])
     | (refine wpList_store_row (by rfl) 26 (.tmp 5) (.tmp 11) (by rfl) wr.heap.size A (by rfl) (by rfl) 26 _ (heap_alloc_new wr _) ai (by rw [az]; rfl) AA.out ?_)
    rw [Hw2.out, Hg1.out]
    have q1 : w2.cell? ⟨g1, 3, none⟩ = some (.int .i64 x.sz) := by rw [<- Hg1.out]; exact cell_arr K2.out.1 (by rw [HA.out]; rfl)
    have B2 : Hid (Below w.heap.size w w2) := HB.out.trans (K2.out.2.1.mono HB.out.size)
    obtain ⟨v, Hv⟩ := nm (IntKind.i64.wrap (s + x.sz))
    have wv := Hv.out
    have NX : Hid (sizO (l.take (t + 1)) = v) := by show _ = _; rw [sizO_snoc EX.out, HK.out, Hv.out]
    clear K2 Hw2 Hg1 E1
    go_wp2
    go_roundw
    case rel => exact ⟨t + 1, v, by omega, by go_num, rfl, NX.out, B2.out⟩
    case measure => simp [intOf]; omega
  . have HF : Hid (sizO l = s) := by show _ = _; rw [<- HK.out, List.take_of_length_le (by have := LX.out; omega)]
    go_wp2
    go_ret
    exact ⟨by rw [HF.out]; rfl, HB.out⟩
end Go.Proofs.YtfabnnbljkkihaaGreatDoor
