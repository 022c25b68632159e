import Derived.Test.YtfabnnbljkkihaaGreatDoorMxp
import Derived.Test.YtfabnnbljkkihaaGreatDoorMx10
import Derived.Laws.MakeOwn
import Derived.Test.YtfabnnbljkkihaaGreatDoorMx00
import Derived.LaidLaws
import Derived.LaidEql
import Derived.LaidMore
import Derived.ProofKit
import Derived.OpenShut
import Derived.Stop.Joined
import Derived.Deep.DeepCutAuto
import Derived.Test.YtfabnnbljkkihaaGreatDoorMx13
import Derived.Laws.Externs
import Derived.Lib.Bytealg
namespace Go.Proofs.YtfabnnbljkkihaaGreatDoor
open Go.ChangeShapes Go.WideShapes Go.ChangeAt Go.RowKit
set_option maxRecDepth 20000
set_option linter.unusedVariables false
set_option linter.unusedSimpArgs false
theorem fold18 {A : Array Value} {x : Cx} (h : A = (encX x).toArray) : Array.foldl (fun cs (x : Value × Nat) => cs.setIfInBounds x.snd x.fst) #[.int .i64 0,.int .i64 0,.int .i64 0,.int .i64 0,.string ⟨#[]⟩,.string ⟨#[]⟩,.int .i64 0,.int .i64 0,.int .i64 0,.int .i64 0,.int .i64 0,.int .i64 0,.int .i64 0,.string ⟨#[]⟩,.int .i64 0,.slice none 0 0,.int .i64 0,.int .i64 0] A.zipIdx 0 18 = A := by
 obtain ⟨⟨k, i0, i1, i2, bu, ke, u0, u1, u2, b0, b1, b2, sz, et, pt, ps, tm, dy⟩, pa, pn, pc⟩ := x
 subst h
 kernel_rfl
def hasI (i j k : Int) (x : Cm) : Bool := decide (x.i0 = i /\ x.i1 = j /\ x.i2 = k)
def plc (l : List Cm) (i j k : Int) : Nat := l.findIdx (hasI i j k)
def idx (l : List Cm) (i j k : Int) : Int := if plc l i j k < l.length then (plc l i j k : Int) else -1
abbrev er (a : Addr) : Value := .iface 216 (.pointer (some a))
def dsent (t : List UInt8) : DataW Unit := .iface "*errors.errorString" (.ptr (.agg [.lit (.string t)]))
def named (l : List (String × Nat × List UInt8)) : List (String × DataW Unit) := l.map fun v => (v.1, dsent v.2.2)
structure Sent (w : World) (M : Nat) (E : Nat -> Addr) : Prop where
 c : ∀ g, g < M -> w.cell? ⟨g, 0, none⟩ = some (er (E g))
 row : ∀ g, g < M -> ∃ cs t, w.heap[(E g).block]? = some (.cells cs t (0, 0))
 ne : ∀ g g', g < M -> g' < M -> g ≠ g' -> E g ≠ E g'
end Go.Proofs.YtfabnnbljkkihaaGreatDoor
namespace Go.Proofs.YtfabnnbljkkihaaGreatDoor
open Go.ChangeShapes Go.WideShapes Go.ChangeAt Go.RowKit
set_option linter.unusedVariables false
set_option linter.unusedSimpArgs false
def ordL : List Nat := [2, 3, 4, 5, 6, 7, 8, 0, 9, 1, 10, 11, 12, 13, 14, 15, 16, 17]
end Go.Proofs.YtfabnnbljkkihaaGreatDoor
namespace Go.Proofs.YtfabnnbljkkihaaGreatDoor
open Go.ChangeShapes Go.WideShapes Go.ChangeAt Go.RowKit
set_option maxRecDepth 20000
set_option linter.unusedVariables false
set_option linter.unusedSimpArgs false
theorem cell_arr {W : World} {g i : Nat} {A : Array Value} {t : TypeId} {fr : Nat × Nat} {v : Value} (h : W.heap[g]? = some (.cells A t fr)) (hv : A[i]? = some v) : W.cell? ⟨g, i, none⟩ = some v := by simp [World.cell?, h, hv]
section
variable {w : World} {lo lo2 : Nat} {a : Option Addr} {n c : Nat} {X : List Cx} {A : Array Value} {x : Cx}
end
def plr (l : List Cm) (i j k : Int) : Int := if plc l i j k < l.length then (plc l i j k : Int) + 1 else 0
def nst (i j : Int) (b : Int) (x : Cm) : Int := if x.i0 = i /\ x.i1 = j then max b x.i2 else b
def nwst (l : List Cm) (i j : Int) : Int := l.foldl (nst i j) (-1)
theorem isnan_n (x : Int) (w : World) : Calls Tryz.prog 145 #[.int .i64 x] w fun e w' => e = .returned (.bool false) /\ w' = w := by
 go_enter Tryz.func145, Tryz.ntmps145
 go_wp2
 go_ret
 exact ⟨by simp, rfl⟩
def cmpI (x y : Int) : Int := if x < y then -1 else if y < x then 1 else 0
set_option maxHeartbeats 1000000 in
theorem compare_n (x y : Int) (w : World) : Calls Tryz.prog 124 #[.int .i64 x,.int .i64 y] w fun e w' => e = .returned (.int .i64 (cmpI x y)) /\ w' = w := by
 go_enter Tryz.func124, Tryz.ntmps124
 by_cases h1 : x < y
 . have e1 : cmpI x y = -1 := by unfold cmpI; rw [if_pos h1]
   go_wp2_with (first
    | (go_at_call 145; refine (isnan_n x _).mono ?_; rintro e w0 ⟨rfl, h00⟩; rw [h00]; clear h00)
    | (go_at_call 145; refine (isnan_n y _).mono ?_; rintro e w0 ⟨rfl, h00⟩; rw [h00]; clear h00))
   go_ret
   exact ⟨by first | rfl | (rw [e1]; rfl), rfl⟩
 . by_cases h2 : y < x
   . have e1 : cmpI x y = 1 := by unfold cmpI; rw [if_neg h1, if_pos h2]
     go_wp2_with (first
      | (go_at_call 145; refine (isnan_n x _).mono ?_; rintro e w0 ⟨rfl, h00⟩; rw [h00]; clear h00)
      | (go_at_call 145; refine (isnan_n y _).mono ?_; rintro e w0 ⟨rfl, h00⟩; rw [h00]; clear h00))
     go_ret
     exact ⟨by first | rfl | (rw [e1]; rfl), rfl⟩
   . have e1 : cmpI x y = 0 := by unfold cmpI; rw [if_neg h1, if_neg h2]
     go_wp2_with (first
      | (go_at_call 145; refine (isnan_n x _).mono ?_; rintro e w0 ⟨rfl, h00⟩; rw [h00]; clear h00)
      | (go_at_call 145; refine (isnan_n y _).mono ?_; rintro e w0 ⟨rfl, h00⟩; rw [h00]; clear h00))
     go_ret
     exact ⟨by first | rfl | (rw [e1]; rfl), rfl⟩
structure Cq (W : World) (ga gb : Nat) (a0 a1 a2 b0 b1 b2 : Int) : Prop where
 x0 : W.cell? ⟨ga, 0, none⟩ = some (.int .i64 a0)
 x1 : W.cell? ⟨ga, 1, none⟩ = some (.int .i64 a1)
 x2 : W.cell? ⟨ga, 2, none⟩ = some (.int .i64 a2)
 y0 : W.cell? ⟨gb, 0, none⟩ = some (.int .i64 b0)
 y1 : W.cell? ⟨gb, 1, none⟩ = some (.int .i64 b1)
 y2 : W.cell? ⟨gb, 2, none⟩ = some (.int .i64 b2)
theorem Cq.below {W W' : World} {ga gb : Nat} {a0 a1 a2 b0 b1 b2 : Int} (h : Cq W ga gb a0 a1 a2 b0 b1 b2) (hb : Below W.heap.size W W') : Cq W' ga gb a0 a1 a2 b0 b1 b2 :=
 ⟨(hb.cell (p := ⟨ga, 0, none⟩) (cell_lt h.x0)).trans h.x0, (hb.cell (p := ⟨ga, 1, none⟩) (cell_lt h.x1)).trans h.x1, (hb.cell (p := ⟨ga, 2, none⟩) (cell_lt h.x2)).trans h.x2, (hb.cell (p := ⟨gb, 0, none⟩) (cell_lt h.y0)).trans h.y0, (hb.cell (p := ⟨gb, 1, none⟩) (cell_lt h.y1)).trans h.y1, (hb.cell (p := ⟨gb, 2, none⟩) (cell_lt h.y2)).trans h.y2⟩
def orI (x y z : Int) : Int := if x ≠ 0 then x else if y ≠ 0 then y else z
set_option maxHeartbeats 1000000 in
theorem or_n {w : World} {g : Nat} (x y z : Int) (c0 : Hid (w.cell? ⟨g, 0, none⟩ = some (.int .i64 x))) (c1 : Hid (w.cell? ⟨g, 1, none⟩ = some (.int .i64 y))) (c2 : Hid (w.cell? ⟨g, 2, none⟩ = some (.int .i64 z))) : Calls Tryz.prog 133 #[.slice (some ⟨g, 0, none⟩) 3 3] w fun e w' => e = .returned (.int .i64 (orI x y z)) /\ w' = w := by
 have q0 := c0.out
 have q1 := c1.out
 have q2 := c2.out
 go_enter Tryz.func133, Tryz.ntmps133
 go_wp2
 refine wp_loop_rounds 4 ?_
 by_cases hx : x = 0
 . by_cases hy : y = 0
   . by_cases hz : z = 0
     . have e1 : orI x y z = 0 := by simp [orI, hx, hy, hz]
       subst hx hy hz
       rw [rounds_succ]
       go_wp2
       rw [rounds_succ]
       go_wp2
       rw [rounds_succ]
       go_wp2
       rw [rounds_succ]
       go_wp2
       go_ret
       exact ⟨by first | rfl | (rw [e1]; rfl), rfl⟩
     . have e1 : orI x y z = z := by simp [orI, hx, hy]
       subst hx hy
       have n1 : (z != 0) = true := by simp [hz]
       clear hz
       rw [rounds_succ]
       go_wp2
       rw [rounds_succ]
       go_wp2
       rw [rounds_succ]
       go_wp2
       go_ret
       exact ⟨by first | rfl | (rw [e1]; rfl), rfl⟩
   . have e1 : orI x y z = y := by simp [orI, hx, hy]
     subst hx
     have n1 : (y != 0) = true := by simp [hy]
     clear hy
     rw [rounds_succ]
     go_wp2
     rw [rounds_succ]
     go_wp2
     go_ret
     exact ⟨by first | rfl | (rw [e1]; rfl), rfl⟩
 . have e1 : orI x y z = x := by simp [orI, hx]
   have n1 : (x != 0) = true := by simp [hx]
   clear hx
   rw [rounds_succ]
   go_wp2
   go_ret
   exact ⟨by first | rfl | (rw [e1]; rfl), rfl⟩
abbrev idw (a b c : Int) : Value := .agg #[.int .i64 a,.int .i64 b,.int .i64 c]
set_option maxHeartbeats 2000000 in
theorem idcmp_n (a0 a1 a2 b0 b1 b2 : Int) (w : World) : Calls Tryz.prog 111 #[idw a0 a1 a2, idw b0 b1 b2] w fun e w' => e = .returned (.int .i64 (orI (cmpI a0 b0) (cmpI a1 b1) (cmpI a2 b2))) /\ Hid (Below w.heap.size w w') := by
 go_enter Tryz.func111, Tryz.ntmps111
 go_upto_region 1 with (fail)
 obtain ⟨ga, Ha⟩ := nm (w.heap.size)
 obtain ⟨gb, Hb⟩ := nm (ga + 1)
 obtain ⟨W1, HW1⟩ := nm (((w.alloc (.cells #[.int .i64 a0,.int .i64 a1,.int .i64 a2] 24)).alloc (.cells #[.int .i64 b0,.int .i64 b1,.int .i64 b2] 24)).drew)
 have K0 : Cq ((w.alloc (.cells #[.int .i64 a0,.int .i64 a1,.int .i64 a2] 24)).alloc (.cells #[.int .i64 b0,.int .i64 b1,.int .i64 b2] 24)).drew ga gb a0 a1 a2 b0 b1 b2 := by
  rw [<- Hb.out, <- Ha.out]
  refine ⟨?_, ?_, ?_, ?_, ?_, ?_⟩ <;> simp
 have B0 : Hid (Below w.heap.size w W1) := by rw [<- HW1.out]; exact (alloc2 w _ _).drew
 refine wp_region_till (S := fun L W => Cq W ga gb a0 a1 a2 b0 b1 b2) (by kernel_rfl) K0 (fun hS => ?_)
 rw [Ha.out, Hb.out, HW1.out]
 rw [HW1.out] at hS
 clear K0
 refine tkg (i := 0) (v := .pointer (some ⟨ga, 0, none⟩)) rfl hS (fun hSb => ?_)
 simp only [pA,pB,pC,Act.put,pD,pE,pF]
 clear hS
 refine trx (i := 1) (c := 4) (v := .int .i64 a0) rfl rfl (Or.inl ⟨by rfl, fun w h => by have q := h.x0; go_simp⟩) hSb (fun hS => ?_)
 simp only [pA,pB,pC,Act.put,pD,pE,pF]
 clear hSb
 refine tkg (i := 2) (v := .pointer (some ⟨gb, 0, none⟩)) rfl hS (fun hSb => ?_)
 simp only [pA,pB,pC,Act.put,pD,pE,pF]
 clear hS
 refine trx (i := 3) (c := 4) (v := .int .i64 b0) rfl rfl (Or.inl ⟨by rfl, fun w h => by have q := h.y0; go_simp⟩) hSb (fun hS => ?_)
 simp only [pA,pB,pC,Act.put,pD,pE,pF]
 clear hSb
 refine tkg (i := 5) (v := .pointer (some ⟨ga, 1, none⟩)) rfl hS (fun hSb => ?_)
 simp only [pA,pB,pC,Act.put,pD,pE,pF]
 clear hS
 refine trx (i := 6) (c := 9) (v := .int .i64 a1) rfl rfl (Or.inl ⟨by rfl, fun w h => by have q := h.x1; go_simp⟩) hSb (fun hS => ?_)
 simp only [pA,pB,pC,Act.put,pD,pE,pF]
 clear hSb
 refine tkg (i := 7) (v := .pointer (some ⟨gb, 1, none⟩)) rfl hS (fun hSb => ?_)
 simp only [pA,pB,pC,Act.put,pD,pE,pF]
 clear hS
 refine trx (i := 8) (c := 9) (v := .int .i64 b1) rfl rfl (Or.inl ⟨by rfl, fun w h => by have q := h.y1; go_simp⟩) hSb (fun hS => ?_)
 simp only [pA,pB,pC,Act.put,pD,pE,pF]
 clear hSb
 refine tkg (i := 10) (v := .pointer (some ⟨ga, 2, none⟩)) rfl hS (fun hSb => ?_)
 simp only [pA,pB,pC,Act.put,pD,pE,pF]
 clear hS
 refine trx (i := 11) (c := 14) (v := .int .i64 a2) rfl rfl (Or.inl ⟨by rfl, fun w h => by have q := h.x2; go_simp⟩) hSb (fun hS => ?_)
 simp only [pA,pB,pC,Act.put,pD,pE,pF]
 clear hSb
 refine tkg (i := 12) (v := .pointer (some ⟨gb, 2, none⟩)) rfl hS (fun hSb => ?_)
 simp only [pA,pB,pC,Act.put,pD,pE,pF]
 clear hS
 refine trx (i := 13) (c := 14) (v := .int .i64 b2) rfl rfl (Or.inl ⟨by rfl, fun w h => by have q := h.y2; go_simp⟩) hSb (fun hS => ?_)
 simp only [pA,pB,pC,Act.put,pD,pE,pF]
 clear hSb
 refine till_one (i := 4) (by kernel_rfl) rfl (fun K hK => ?_)
 simp only [pA,pB,pC]
 rw [if_pos (by rfl)]
 go_simp
 go_wp2_with (go_at_call 124; refine (compare_n a0 b0 _).mono ?_; rintro e w0 ⟨rfl, h00⟩; rw [h00]; clear h00)
 refine hK.out _ _ (hS) (fun hSb => ?_)
 clear hK K
 try simp only [pA,pB,pC,Act.put,pD,pE,pF]
 clear hS
 refine till_one (i := 9) (by kernel_rfl) rfl (fun K hK => ?_)
 simp only [pA,pB,pC]
 rw [if_pos (by rfl)]
 go_simp
 go_wp2_with (go_at_call 124; refine (compare_n a1 b1 _).mono ?_; rintro e w0 ⟨rfl, h00⟩; rw [h00]; clear h00)
 refine hK.out _ _ (hSb) (fun hS => ?_)
 clear hK K
 try simp only [pA,pB,pC,Act.put,pD,pE,pF]
 clear hSb
 refine till_one (i := 14) (by kernel_rfl) rfl (fun K hK => ?_)
 simp only [pA,pB,pC]
 rw [if_pos (by rfl)]
 go_simp
 go_wp2_with (go_at_call 124; refine (compare_n a2 b2 _).mono ?_; rintro e w0 ⟨rfl, h00⟩; rw [h00]; clear h00)
 refine hK.out _ _ (hS) (fun hSb => ?_)
 clear hK K
 try simp only [pA,pB,pC,Act.put,pD,pE,pF]
 clear hS
 refine till_one (i := 15) (by kernel_rfl) rfl (fun K hK => ?_)
 simp only [pA,pB,pC]
 rw [if_pos (by rfl)]
 go_simp
 refine hK.out _ _ (hSb.below (alloc1 W1 _)) (fun hT => ?_)
 clear hK K
 try simp only [pA,pB,pC,Act.put,pD,pE,pF]
 have q0 : Hid ((W1.alloc (.cells #[.int .i64 (cmpI a0 b0),.int .i64 (cmpI a1 b1),.int .i64 (cmpI a2 b2)] 3)).cell? ⟨W1.heap.size, 0, none⟩ = some (.int .i64 (cmpI a0 b0))) := by show _ = _; simp
 have q1 : Hid ((W1.alloc (.cells #[.int .i64 (cmpI a0 b0),.int .i64 (cmpI a1 b1),.int .i64 (cmpI a2 b2)] 3)).cell? ⟨W1.heap.size, 1, none⟩ = some (.int .i64 (cmpI a1 b1))) := by show _ = _; simp
 have q2 : Hid ((W1.alloc (.cells #[.int .i64 (cmpI a0 b0),.int .i64 (cmpI a1 b1),.int .i64 (cmpI a2 b2)] 3)).cell? ⟨W1.heap.size, 2, none⟩ = some (.int .i64 (cmpI a2 b2))) := by show _ = _; simp
 refine till_one (i := 16) (by kernel_rfl) rfl (fun K hK => ?_)
 simp only [pA,pB,pC]
 rw [if_pos (by rfl)]
 go_simp
 go_wp2_with (go_at_call 133; refine (or_n _ _ _ q0 q1 q2).mono ?_; rintro e w0 ⟨rfl, h00⟩; rw [h00]; clear h00)
 refine hK.out _ _ hT (fun hU => ?_)
 clear hK K
 try simp only [pA,pB,pC,Act.put,pD,pE,pF]
 refine till_one (i := 17) (by kernel_rfl) rfl (fun K hK => ?_)
 simp only [pA,pB,pC]
 rw [if_pos (by rfl)]
 go_simp
 refine hK.out _ _ hU (fun hV => ?_)
 clear hK K
 try simp only [pA,pB,pC,Act.put,pD,pE,pF]
 refine till_done (by kernel_rfl) ?_ _
 go_wp2
 go_ret
 exact ⟨rfl, B0.out.trans ((alloc1 W1 _).mono B0.out.size)⟩
theorem bcmp_n (a b : ByteArray) (w : World) : Calls Tryz.prog 114 #[.string a,.string b] w fun e w' => e = .returned (.int .i64 (cmS a b)) /\ w' = w := by
 go_enter Tryz.func114, Tryz.ntmps114
 go_wp2
 rw [run_callFunc_extern Tryz.func135 (by kernel_rfl) (by kernel_rfl) (by kernel_rfl) (e := Extern.BytealgCompare.compare) (by kernel_rfl), Lib.run_compareString]
 simp only [Result.andThen]
 rw [Oper.upon_value]
 go_wp2
 go_ret
 exact ⟨rfl, rfl⟩
theorem scmp_n (a b : ByteArray) (w : World) : Calls Tryz.prog 82 #[.string a,.string b] w fun e w' => e = .returned (.int .i64 (cmS a b)) /\ w' = w := by
 go_enter Tryz.func82, Tryz.ntmps82
 go_wp2_with (go_at_call 114; refine (bcmp_n a b _).mono ?_; rintro e w' ⟨rfl, rfl⟩)
 go_ret
 exact ⟨rfl, rfl⟩
theorem byName_n {w : World} {A : Array Value} {x : Bkx} (hA : Hid (A = (EBk.e x).toArray)) (s : ByteArray) : Calls Tryz.prog 50 #[.agg A,.string s] w fun e w' => e = .returned (.int .i64 (byN s x.bk)) /\ Hid (Below w.heap.size w w') := by
 obtain ⟨w1, Hw1⟩ := nm (w.alloc (.cells A 65))
 obtain ⟨g, Hg⟩ := nm (w.heap.size)
 have B1 : Hid (Below w.heap.size w w1) := by rw [<- Hw1.out]; exact alloc1 w _
 have k1 : Hid (w1.heap[g]? = some (.cells A 65 (0, 0))) := by rw [<- Hw1.out, <- Hg.out]; exact heap_alloc_new w _
 have q1 : w1.cell? ⟨g, 0, none⟩ = some (.string x.nm) := cell_arr k1.out (by rw [hA.out]; rfl)
 go_enter Tryz.func50, Tryz.ntmps50
 go_upto_region 1 with (fail)
 rw [Hw1.out, Hg.out]
 clear Hw1
 go_wp2_with (go_at_call 82; refine (scmp_n x.nm s _).mono ?_; rintro e w0 ⟨rfl, h00⟩; rw [h00]; clear h00)
 go_ret
 exact ⟨rfl, B1.out⟩
theorem byKey_n {w : World} {A : Array Value} {x : Obx} (hA : Hid (A = (EOb.e x).toArray)) (s : ByteArray) : Calls Tryz.prog 53 #[.agg A,.string s] w fun e w' => e = .returned (.int .i64 (byK s x.ob)) /\ Hid (Below w.heap.size w w') := by
 obtain ⟨w1, Hw1⟩ := nm (w.alloc (.cells A 71))
 obtain ⟨g, Hg⟩ := nm (w.heap.size)
 have B1 : Hid (Below w.heap.size w w1) := by rw [<- Hw1.out]; exact alloc1 w _
 have k1 : Hid (w1.heap[g]? = some (.cells A 71 (0, 0))) := by rw [<- Hw1.out, <- Hg.out]; exact heap_alloc_new w _
 have q1 : w1.cell? ⟨g, 0, none⟩ = some (.string x.ob.key) := cell_arr k1.out (by rw [hA.out]; rfl)
 go_enter Tryz.func53, Tryz.ntmps53
 go_upto_region 1 with (fail)
 rw [Hw1.out, Hg.out]
 clear Hw1
 go_wp2_with (go_at_call 82; refine (scmp_n x.ob.key s _).mono ?_; rintro e w0 ⟨rfl, h00⟩; rw [h00]; clear h00)
 go_ret
 exact ⟨rfl, B1.out⟩
theorem byNumber_n {w : World} {A : Array Value} {x : Ptd} (hA : Hid (A = (EPt.e x).toArray)) (n : Int) : Calls Tryz.prog 103 #[.agg A,.int .i64 n] w fun e w' => e = .returned (.int .i64 (byP n x)) /\ Hid (Below w.heap.size w w') := by
 obtain ⟨w1, Hw1⟩ := nm (w.alloc (.cells A 108))
 obtain ⟨g, Hg⟩ := nm (w.heap.size)
 have B1 : Hid (Below w.heap.size w w1) := by rw [<- Hw1.out]; exact alloc1 w _
 have k1 : Hid (w1.heap[g]? = some (.cells A 108 (0, 0))) := by rw [<- Hw1.out, <- Hg.out]; exact heap_alloc_new w _
 have q1 : w1.cell? ⟨g, 0, none⟩ = some (.int .i64 x.no) := cell_arr k1.out (by rw [hA.out]; rfl)
 go_enter Tryz.func103, Tryz.ntmps103
 go_upto_region 1 with (fail)
 rw [Hw1.out, Hg.out]
 clear Hw1
 go_wp2_with (go_at_call 124; refine (compare_n x.no n _).mono ?_; rintro e w0 ⟨rfl, h00⟩; rw [h00]; clear h00)
 go_ret
 exact ⟨rfl, B1.out⟩
theorem byNode_n {w : World} {A : Array Value} {x : Idd} (hA : Hid (A = (EId.e x).toArray)) (n : Int) : Calls Tryz.prog 110 #[.agg A,.int .i64 n] w fun e w' => e = .returned (.int .i64 (byF n x)) /\ Hid (Below w.heap.size w w') := by
 obtain ⟨w1, Hw1⟩ := nm (w.alloc (.cells A 24))
 obtain ⟨g, Hg⟩ := nm (w.heap.size)
 have B1 : Hid (Below w.heap.size w w1) := by rw [<- Hw1.out]; exact alloc1 w _
 have k1 : Hid (w1.heap[g]? = some (.cells A 24 (0, 0))) := by rw [<- Hw1.out, <- Hg.out]; exact heap_alloc_new w _
 have q1 : w1.cell? ⟨g, 0, none⟩ = some (.int .i64 x.i0) := cell_arr k1.out (by rw [hA.out]; rfl)
 go_enter Tryz.func110, Tryz.ntmps110
 go_upto_region 1 with (fail)
 rw [Hw1.out, Hg.out]
 clear Hw1
 go_wp2_with (go_at_call 124; refine (compare_n x.i0 n _).mono ?_; rintro e w0 ⟨rfl, h00⟩; rw [h00]; clear h00)
 go_ret
 exact ⟨rfl, B1.out⟩
theorem byId_n {w : World} {A : Array Value} {x : Ulx} (hA : Hid (A = (EUl.e x).toArray)) (i j k : Int) : Calls Tryz.prog 88 #[.agg A, .agg #[.int .i64 i,.int .i64 j,.int .i64 k]] w fun e w' => e = .returned (.int .i64 (byU i j k x.ul)) /\ Hid (Below w.heap.size w w') := by
 obtain ⟨w1, Hw1⟩ := nm ((w.alloc (.cells A 77)).alloc (.cells #[.int .i64 i,.int .i64 j,.int .i64 k] 24))
 obtain ⟨g, Hg⟩ := nm (w.heap.size)
 have B1 : Hid (Below w.heap.size w w1) := by rw [<- Hw1.out]; exact alloc2 w _ _
 have k1 : Hid (w1.heap[g]? = some (.cells A 77 (0, 0))) := by
  rw [<- Hw1.out, <- Hg.out]
  exact ((alloc1 (w.alloc (.cells A 77)) _).block w.heap.size (by simp)).trans (heap_alloc_new w _)
 have k2 : Hid (w1.heap[g + 1]? = some (.cells #[.int .i64 i,.int .i64 j,.int .i64 k] 24 (0, 0))) := by
  rw [<- Hw1.out, <- Hg.out]
  have e : (w.alloc (.cells A 77)).heap.size = w.heap.size + 1 := by simp
  rw [<- e]
  exact heap_alloc_new _ _
 have q1 : w1.cell? ⟨g, 0, none⟩ = some (.int .i64 x.ul.i0) := cell_arr k1.out (by rw [hA.out]; rfl)
 have q2 : w1.cell? ⟨g, 1, none⟩ = some (.int .i64 x.ul.i1) := cell_arr k1.out (by rw [hA.out]; rfl)
 have q3 : w1.cell? ⟨g, 2, none⟩ = some (.int .i64 x.ul.i2) := cell_arr k1.out (by rw [hA.out]; rfl)
 have q4 : w1.cell? ⟨g + 1, 0, none⟩ = some (.int .i64 i) := cell_arr k2.out rfl
 have q5 : w1.cell? ⟨g + 1, 1, none⟩ = some (.int .i64 j) := cell_arr k2.out rfl
 have q6 : w1.cell? ⟨g + 1, 2, none⟩ = some (.int .i64 k) := cell_arr k2.out rfl
 go_enter Tryz.func88, Tryz.ntmps88
 go_upto_region 1 with (fail)
 rw [Hw1.out, Hg.out]
 clear Hw1
 go_wp2_with (go_at_call 111; refine (idcmp_n _ _ _ _ _ _ _).mono ?_; rintro e w2 ⟨rfl, H2⟩)
 go_ret
 exact ⟨rfl, B1.out.trans (H2.out.mono B1.out.size)⟩
set_option maxHeartbeats 8000000 in
theorem bsfB {w : World} {lo hi : Nat} {a : Option Addr} {n c : Nat} {X : List Bkx} (s : ByteArray) (hA : Hid (Rw w lo hi 65 EBk a n c X)) (hn : n <= 1048576) :
  Calls Tryz.prog 81 #[.slice a n c,.string s, .func (.func 50) #[] #[]] w fun e w' => e = .returned (.tuple #[.int .i64 (plcB (byN s) (X.map Bkx.bk) : Nat), .bool (isB (byN s) (X.map Bkx.bk))]) /\ Hid (Below w.heap.size w w') := by
 have LX : Hid (n = X.length) := hA.out.len
 have LD : Hid ((X.map Bkx.bk).length = n) := by show _ = _; rw [List.length_map]; exact LX.out.symm
 obtain ⟨p, Hp⟩ : ∃ p : Nat -> Bool, Hid ((fun h => ((X.map Bkx.bk)[h]?).any (fun x => decide (byN s x < 0))) = p) := ⟨_, rfl⟩
 have HPL : Hid (plcB (byN s) (X.map Bkx.bk) = bsr p n 0 n) := by show _ = _; unfold plcB; rw [Hp.out, LD.out]
 have HPX : Hid (∀ h x, X[h]? = some x -> p h = decide (byN s (Bkx.bk x) < 0)) := fun h x hx => by rw [<- Hp.out]; simp [hx]
 go_enter Tryz.func81, Tryz.ntmps81
 go_wp2
 go_loopw [9, 10] (fun t9 t10 wr => ∃ (i j : Nat), i <= j /\ j <= n /\ t9 = .int .i64 i /\ t10 = .int .i64 j /\ Hid (bsr p n i j = bsr p n 0 n) /\ Hid (Below w.heap.size w wr)) (fun t9 t10 _ => (intOf t10).toNat - (intOf t9).toNat)
 case atStart => exact ⟨0, n, by omega, by omega, rfl, rfl, rfl, Below.refl _ _⟩
 case round =>
  obtain ⟨i, j, hij, hjn, rfl, rfl, HI, HB⟩ := hrel
  by_cases hlt : i < j
  . have i3 : (i : Int) < (j : Int) := by omega
    obtain ⟨h, Hh⟩ := nm ((i + j) / 2)
    have hh : ((i : Int) + (j : Int)) / 2 = (h : Int) := by have := Hh.out; omega
    have hi2 : i <= h /\ h < j := by have := Hh.out; omega
    have hhn : h < n := by omega
    have kx : h < X.length := by rw [<- LX.out]; exact hhn
    obtain ⟨b1, rfl, _, _, e1⟩ := (hA.out.below HB.out).at_ kx
    obtain ⟨x, Hx⟩ := nm (X[h])
    rw [Hx.out] at e1
    have EX : Hid (X[h]? = some x) := by show _ = _; rw [<- Hx.out]; exact List.getElem?_eq_getElem kx
    obtain ⟨A, HA⟩ : ∃ A, Hid (A = (EBk.e x).toArray) := ⟨_, rfl⟩
    have E1 : Hid (wr.rangeAt b1 (h * 5) (EBk.e x)) := e1
    have ST := bsr_step p (k := n) (lo := i) (hi := j) (by omega) hlt
    rw [Hh.out, HPX.out h x EX.out] at ST
    have HST : Hid (bsr p n i j = if decide (byN s (Bkx.bk x) < 0) = true then bsr p n (h + 1) j else bsr p n i h) := ST
    clear e1 ST Hx kx
    obtain ⟨v, Hv⟩ := nm (byN s (Bkx.bk x))
    by_cases hv : v < 0
    . have HN : Hid (bsr p n (h + 1) j = bsr p n 0 n) := by show _ = _; rw [<- HI.out, HST.out, Hv.out, if_pos (decide_eq_true hv)]
      go_wp2_with (first
       | (refine wpList_load_mid (by rfl) 65 (.tmp 27) (by rfl) b1 (h * 5) (by rfl) (EBk.e x) _ E1.out Tryz.underlying65 rfl (by rw [EBk.len]; exact inz65) ?_; rw [<- HA.out])
       | (go_at_call 50; refine (byName_n HA s).mono ?_; rintro e w3 ⟨rfl, H3⟩; rw [Hv.out]))
      go_roundw
      case rel => exact ⟨h + 1, j, by omega, hjn, by go_num, rfl, HN.out, HB.out.trans (H3.out.mono HB.out.size)⟩
      case measure => simp [intOf]; omega
    . have hv2 : ¬ (v < 0) := hv
      have HN : Hid (bsr p n i h = bsr p n 0 n) := by show _ = _; rw [<- HI.out, HST.out, Hv.out, if_neg (by simpa using hv)]
      go_wp2_with (first
       | (refine wpList_load_mid (by rfl) 65 (.tmp 27) (by rfl) b1 (h * 5) (by rfl) (EBk.e x) _ E1.out Tryz.underlying65 rfl (by rw [EBk.len]; exact inz65) ?_; rw [<- HA.out])
       | (go_at_call 50; refine (byName_n HA s).mono ?_; rintro e w3 ⟨rfl, H3⟩; rw [Hv.out]))
      go_roundw
      case rel => exact ⟨i, h, by omega, by omega, rfl, rfl, HN.out, HB.out.trans (H3.out.mono HB.out.size)⟩
      case measure => simp [intOf]; omega
  . obtain rfl : i = j := by omega
    have HPI : Hid (plcB (byN s) (X.map Bkx.bk) = i) := by show _ = _; rw [HPL.out, <- HI.out, bsr_done _ _ _ _ (by omega)]
    by_cases hin : i < n
    . have i3 : (i : Int) < (n : Int) := by omega
      have kx : i < X.length := by rw [<- LX.out]; exact hin
      obtain ⟨b1, rfl, _, _, e1⟩ := (hA.out.below HB.out).at_ kx
      obtain ⟨x, Hx⟩ := nm (X[i])
      rw [Hx.out] at e1
      have EX : Hid (X[i]? = some x) := by show _ = _; rw [<- Hx.out]; exact List.getElem?_eq_getElem kx
      have ce0 : wr.cell? ⟨b1, i * 5, none⟩ = some (.string x.nm) := e1 0 _ rfl
      have ce1 : wr.cell? ⟨b1, i * 5 + 1, none⟩ = some (.int .i64 x.tm) := e1 1 _ rfl
      have ce2 : wr.cell? ⟨b1, i * 5 + 2, none⟩ = some (.int .i64 x.dy) := e1 2 _ rfl
      have ce3 : wr.cell? ⟨b1, i * 5 + 3, none⟩ = some (.slice x.oa x.on x.oc) := e1 3 _ rfl
      have ce4 : wr.cell? ⟨b1, i * 5 + 4, none⟩ = some (.slice x.ua x.un x.uc) := e1 4 _ rfl
      clear e1 Hx kx
      obtain ⟨v, Hv⟩ := nm (byN s (Bkx.bk x))
      have HIS : Hid (isB (byN s) (X.map Bkx.bk) = decide (v = 0)) := by
       show _ = _
       unfold isB
       rw [HPI.out, <- Hv.out]
       simp [EX.out]
      go_wp2_with (go_at_call 50; refine (byName_n (x := x) (show Hid _ from rfl) s).mono ?_; rintro e w3 ⟨rfl, H3⟩; rw [Hv.out])
      go_ret2
      refine ⟨?_, HB.out.trans (H3.out.mono HB.out.size)⟩
      rw [HPI.out, HIS.out]
      by_cases h0 : v = 0 <;> simp [h0]
    . have i4 : ¬ ((i : Int) < (n : Int)) := by omega
      have HIS : Hid (isB (byN s) (X.map Bkx.bk) = false) := by
       show _ = _
       unfold isB
       rw [HPI.out, List.getElem?_eq_none (by rw [LD.out]; omega)]
       rfl
      go_wp2
      go_ret2
      refine ⟨?_, HB.out⟩
      rw [HPI.out, HIS.out]
      first | rfl | simp
theorem findB {w : World} {lo hi : Nat} {a : Option Addr} {n c : Nat} {X : List Bkx} (s : ByteArray) (hA : Hid (Rw w lo hi 65 EBk a n c X)) (hn : n <= 1048576) :
  Calls Tryz.prog 49 #[.slice a n c,.string s, .func (.func 50) #[] #[]] w fun e w' => e = .returned (.tuple #[.int .i64 (plcB (byN s) (X.map Bkx.bk) : Nat), .bool (isB (byN s) (X.map Bkx.bk))]) /\ Hid (Below w.heap.size w w') := by
 go_enter Tryz.func49, Tryz.ntmps49
 go_wp2_with (go_at_call 81; refine (bsfB s hA hn).mono ?_; rintro e w1 ⟨rfl, H1⟩)
 go_ret2
 exact ⟨rfl, H1.out⟩
theorem inz24 : (Tryz.prog.info? 24).map (·.size) = some 3 := by kernel_rfl
set_option maxHeartbeats 8000000 in
theorem bsfO {w : World} {lo hi : Nat} {a : Option Addr} {n c : Nat} {X : List Obx} (s : ByteArray) (hA : Hid (Rw w lo hi 71 EOb a n c X)) (hn : n <= 1048576) :
  Calls Tryz.prog 85 #[.slice a n c,.string s, .func (.func 53) #[] #[]] w fun e w' => e = .returned (.tuple #[.int .i64 (plcB (byK s) (X.map Obx.ob) : Nat), .bool (isB (byK s) (X.map Obx.ob))]) /\ Hid (Below w.heap.size w w') := by
 have LX : Hid (n = X.length) := hA.out.len
 have LD : Hid ((X.map Obx.ob).length = n) := by show _ = _; rw [List.length_map]; exact LX.out.symm
 obtain ⟨p, Hp⟩ : ∃ p : Nat -> Bool, Hid ((fun h => ((X.map Obx.ob)[h]?).any (fun x => decide (byK s x < 0))) = p) := ⟨_, rfl⟩
 have HPL : Hid (plcB (byK s) (X.map Obx.ob) = bsr p n 0 n) := by show _ = _; unfold plcB; rw [Hp.out, LD.out]
 have HPX : Hid (∀ h x, X[h]? = some x -> p h = decide (byK s (Obx.ob x) < 0)) := fun h x hx => by rw [<- Hp.out]; simp [hx]
 go_enter Tryz.func85, Tryz.ntmps85
 go_wp2
 go_loopw [9, 10] (fun t9 t10 wr => ∃ (i j : Nat), i <= j /\ j <= n /\ t9 = .int .i64 i /\ t10 = .int .i64 j /\ Hid (bsr p n i j = bsr p n 0 n) /\ Hid (Below w.heap.size w wr)) (fun t9 t10 _ => (intOf t10).toNat - (intOf t9).toNat)
 case atStart => exact ⟨0, n, by omega, by omega, rfl, rfl, rfl, Below.refl _ _⟩
 case round =>
  obtain ⟨i, j, hij, hjn, rfl, rfl, HI, HB⟩ := hrel
  by_cases hlt : i < j
  . have i3 : (i : Int) < (j : Int) := by omega
    obtain ⟨h, Hh⟩ := nm ((i + j) / 2)
    have hh : ((i : Int) + (j : Int)) / 2 = (h : Int) := by have := Hh.out; omega
    have hi2 : i <= h /\ h < j := by have := Hh.out; omega
    have hhn : h < n := by omega
    have kx : h < X.length := by rw [<- LX.out]; exact hhn
    obtain ⟨b1, rfl, _, _, e1⟩ := (hA.out.below HB.out).at_ kx
    obtain ⟨x, Hx⟩ := nm (X[h])
    rw [Hx.out] at e1
    have EX : Hid (X[h]? = some x) := by show _ = _; rw [<- Hx.out]; exact List.getElem?_eq_getElem kx
    obtain ⟨A, HA⟩ : ∃ A, Hid (A = (EOb.e x).toArray) := ⟨_, rfl⟩
    have E1 : Hid (wr.rangeAt b1 (h * 5) (EOb.e x)) := e1
    have ST := bsr_step p (k := n) (lo := i) (hi := j) (by omega) hlt
    rw [Hh.out, HPX.out h x EX.out] at ST
    have HST : Hid (bsr p n i j = if decide (byK s (Obx.ob x) < 0) = true then bsr p n (h + 1) j else bsr p n i h) := ST
    clear e1 ST Hx kx
    obtain ⟨v, Hv⟩ := nm (byK s (Obx.ob x))
    by_cases hv : v < 0
    . have HN : Hid (bsr p n (h + 1) j = bsr p n 0 n) := by show _ = _; rw [<- HI.out, HST.out, Hv.out, if_pos (decide_eq_true hv)]
      go_wp2_with (first
       | (refine wpList_load_mid (by rfl) 71 (.tmp 27) (by rfl) b1 (h * 5) (by rfl) (EOb.e x) _ E1.out Tryz.underlying71 rfl (by rw [EOb.len]; exact inz71) ?_; rw [<- HA.out])
       | (go_at_call 53; refine (byKey_n HA s).mono ?_; rintro e w3 ⟨rfl, H3⟩; rw [Hv.out]))
      go_roundw
      case rel => exact ⟨h + 1, j, by omega, hjn, by go_num, rfl, HN.out, HB.out.trans (H3.out.mono HB.out.size)⟩
      case measure => simp [intOf]; omega
    . have hv2 : ¬ (v < 0) := hv
      have HN : Hid (bsr p n i h = bsr p n 0 n) := by show _ = _; rw [<- HI.out, HST.out, Hv.out, if_neg (by simpa using hv)]
      go_wp2_with (first
       | (refine wpList_load_mid (by rfl) 71 (.tmp 27) (by rfl) b1 (h * 5) (by rfl) (EOb.e x) _ E1.out Tryz.underlying71 rfl (by rw [EOb.len]; exact inz71) ?_; rw [<- HA.out])
       | (go_at_call 53; refine (byKey_n HA s).mono ?_; rintro e w3 ⟨rfl, H3⟩; rw [Hv.out]))
      go_roundw
      case rel => exact ⟨i, h, by omega, by omega, rfl, rfl, HN.out, HB.out.trans (H3.out.mono HB.out.size)⟩
      case measure => simp [intOf]; omega
  . obtain rfl : i = j := by omega
    have HPI : Hid (plcB (byK s) (X.map Obx.ob) = i) := by show _ = _; rw [HPL.out, <- HI.out, bsr_done _ _ _ _ (by omega)]
    by_cases hin : i < n
    . have i3 : (i : Int) < (n : Int) := by omega
      have kx : i < X.length := by rw [<- LX.out]; exact hin
      obtain ⟨b1, rfl, _, _, e1⟩ := (hA.out.below HB.out).at_ kx
      obtain ⟨x, Hx⟩ := nm (X[i])
      rw [Hx.out] at e1
      have EX : Hid (X[i]? = some x) := by show _ = _; rw [<- Hx.out]; exact List.getElem?_eq_getElem kx
      have ce0 : wr.cell? ⟨b1, i * 5, none⟩ = some (.string x.ob.key) := e1 0 _ rfl
      have ce1 : wr.cell? ⟨b1, i * 5 + 1, none⟩ = some (.int .i64 x.ob.size) := e1 1 _ rfl
      have ce2 : wr.cell? ⟨b1, i * 5 + 2, none⟩ = some (.string x.ob.etag) := e1 2 _ rfl
      have ce3 : wr.cell? ⟨b1, i * 5 + 3, none⟩ = some (.int .i64 x.ob.time) := e1 3 _ rfl
      have ce4 : wr.cell? ⟨b1, i * 5 + 4, none⟩ = some (.slice x.a x.n x.c) := e1 4 _ rfl
      clear e1 Hx kx
      obtain ⟨v, Hv⟩ := nm (byK s (Obx.ob x))
      have HIS : Hid (isB (byK s) (X.map Obx.ob) = decide (v = 0)) := by
       show _ = _
       unfold isB
       rw [HPI.out, <- Hv.out]
       simp [EX.out]
      go_wp2_with (go_at_call 53; refine (byKey_n (x := x) (show Hid _ from rfl) s).mono ?_; rintro e w3 ⟨rfl, H3⟩; rw [Hv.out])
      go_ret2
      refine ⟨?_, HB.out.trans (H3.out.mono HB.out.size)⟩
      rw [HPI.out, HIS.out]
      by_cases h0 : v = 0 <;> simp [h0]
    . have i4 : ¬ ((i : Int) < (n : Int)) := by omega
      have HIS : Hid (isB (byK s) (X.map Obx.ob) = false) := by
       show _ = _
       unfold isB
       rw [HPI.out, List.getElem?_eq_none (by rw [LD.out]; omega)]
       rfl
      go_wp2
      go_ret2
      refine ⟨?_, HB.out⟩
      rw [HPI.out, HIS.out]
      first | rfl | simp
theorem findO {w : World} {lo hi : Nat} {a : Option Addr} {n c : Nat} {X : List Obx} (s : ByteArray) (hA : Hid (Rw w lo hi 71 EOb a n c X)) (hn : n <= 1048576) :
  Calls Tryz.prog 52 #[.slice a n c,.string s, .func (.func 53) #[] #[]] w fun e w' => e = .returned (.tuple #[.int .i64 (plcB (byK s) (X.map Obx.ob) : Nat), .bool (isB (byK s) (X.map Obx.ob))]) /\ Hid (Below w.heap.size w w') := by
 go_enter Tryz.func52, Tryz.ntmps52
 go_wp2_with (go_at_call 85; refine (bsfO s hA hn).mono ?_; rintro e w1 ⟨rfl, H1⟩)
 go_ret2
 exact ⟨rfl, H1.out⟩
set_option maxHeartbeats 8000000 in
theorem bsfP {w : World} {lo hi : Nat} {a : Option Addr} {n c : Nat} {X : List Ptd} (m : Int) (hA : Hid (Rw w lo hi 108 EPt a n c X)) (hn : n <= 1048576) :
  Calls Tryz.prog 142 #[.slice a n c,.int .i64 m, .func (.func 103) #[] #[]] w fun e w' => e = .returned (.tuple #[.int .i64 (plcB (byP m) X : Nat), .bool (isB (byP m) X)]) /\ Hid (Below w.heap.size w w') := by
 have LX : Hid (n = X.length) := hA.out.len
 have LD : Hid (X.length = n) := by show _ = _; exact LX.out.symm
 obtain ⟨p, Hp⟩ : ∃ p : Nat -> Bool, Hid ((fun h => (X[h]?).any (fun x => decide (byP m x < 0))) = p) := ⟨_, rfl⟩
 have HPL : Hid (plcB (byP m) X = bsr p n 0 n) := by show _ = _; unfold plcB; rw [Hp.out, LD.out]
 have HPX : Hid (∀ h x, X[h]? = some x -> p h = decide (byP m x < 0)) := fun h x hx => by rw [<- Hp.out]; simp [hx]
 go_enter Tryz.func142, Tryz.ntmps142
 go_wp2
 go_loopw [9, 10] (fun t9 t10 wr => ∃ (i j : Nat), i <= j /\ j <= n /\ t9 = .int .i64 i /\ t10 = .int .i64 j /\ Hid (bsr p n i j = bsr p n 0 n) /\ Hid (Below w.heap.size w wr)) (fun t9 t10 _ => (intOf t10).toNat - (intOf t9).toNat)
 case atStart => exact ⟨0, n, by omega, by omega, rfl, rfl, rfl, Below.refl _ _⟩
 case round =>
  obtain ⟨i, j, hij, hjn, rfl, rfl, HI, HB⟩ := hrel
  by_cases hlt : i < j
  . have i3 : (i : Int) < (j : Int) := by omega
    obtain ⟨h, Hh⟩ := nm ((i + j) / 2)
    have hh : ((i : Int) + (j : Int)) / 2 = (h : Int) := by have := Hh.out; omega
    have hi2 : i <= h /\ h < j := by have := Hh.out; omega
    have hhn : h < n := by omega
    have kx : h < X.length := by rw [<- LX.out]; exact hhn
    obtain ⟨b1, rfl, _, _, e1⟩ := (hA.out.below HB.out).at_ kx
    obtain ⟨x, Hx⟩ := nm (X[h])
    rw [Hx.out] at e1
    have EX : Hid (X[h]? = some x) := by show _ = _; rw [<- Hx.out]; exact List.getElem?_eq_getElem kx
    obtain ⟨A, HA⟩ : ∃ A, Hid (A = (EPt.e x).toArray) := ⟨_, rfl⟩
    have E1 : Hid (wr.rangeAt b1 (h * 6) (EPt.e x)) := e1
    have ST := bsr_step p (k := n) (lo := i) (hi := j) (by omega) hlt
    rw [Hh.out, HPX.out h x EX.out] at ST
    have HST : Hid (bsr p n i j = if decide (byP m x < 0) = true then bsr p n (h + 1) j else bsr p n i h) := ST
    clear e1 ST Hx kx
    obtain ⟨v, Hv⟩ := nm (byP m x)
    by_cases hv : v < 0
    . have HN : Hid (bsr p n (h + 1) j = bsr p n 0 n) := by show _ = _; rw [<- HI.out, HST.out, Hv.out, if_pos (decide_eq_true hv)]
      go_wp2_with (first
       | (refine wpList_load_mid (by rfl) 108 (.tmp 27) (by rfl) b1 (h * 6) (by rfl) (EPt.e x) _ E1.out Tryz.underlying108 rfl (by rw [EPt.len]; exact inz108) ?_; rw [<- HA.out])
       | (go_at_call 103; refine (byNumber_n HA m).mono ?_; rintro e w3 ⟨rfl, H3⟩; rw [Hv.out]))
      go_roundw
      case rel => exact ⟨h + 1, j, by omega, hjn, by go_num, rfl, HN.out, HB.out.trans (H3.out.mono HB.out.size)⟩
      case measure => simp [intOf]; omega
    . have hv2 : ¬ (v < 0) := hv
      have HN : Hid (bsr p n i h = bsr p n 0 n) := by show _ = _; rw [<- HI.out, HST.out, Hv.out, if_neg (by simpa using hv)]
      go_wp2_with (first
       | (refine wpList_load_mid (by rfl) 108 (.tmp 27) (by rfl) b1 (h * 6) (by rfl) (EPt.e x) _ E1.out Tryz.underlying108 rfl (by rw [EPt.len]; exact inz108) ?_; rw [<- HA.out])
       | (go_at_call 103; refine (byNumber_n HA m).mono ?_; rintro e w3 ⟨rfl, H3⟩; rw [Hv.out]))
      go_roundw
      case rel => exact ⟨i, h, by omega, by omega, rfl, rfl, HN.out, HB.out.trans (H3.out.mono HB.out.size)⟩
      case measure => simp [intOf]; omega
  . obtain rfl : i = j := by omega
    have HPI : Hid (plcB (byP m) X = i) := by show _ = _; rw [HPL.out, <- HI.out, bsr_done _ _ _ _ (by omega)]
    by_cases hin : i < n
    . have i3 : (i : Int) < (n : Int) := by omega
      have kx : i < X.length := by rw [<- LX.out]; exact hin
      obtain ⟨b1, rfl, _, _, e1⟩ := (hA.out.below HB.out).at_ kx
      obtain ⟨x, Hx⟩ := nm (X[i])
      rw [Hx.out] at e1
      have EX : Hid (X[i]? = some x) := by show _ = _; rw [<- Hx.out]; exact List.getElem?_eq_getElem kx
      have ce0 : wr.cell? ⟨b1, i * 6, none⟩ = some (.int .i64 x.no) := e1 0 _ rfl
      have ce1 : wr.cell? ⟨b1, i * 6 + 1, none⟩ = some (.int .i64 x.pc.b0) := e1 1 _ rfl
      have ce2 : wr.cell? ⟨b1, i * 6 + 2, none⟩ = some (.int .i64 x.pc.b1) := e1 2 _ rfl
      have ce3 : wr.cell? ⟨b1, i * 6 + 3, none⟩ = some (.int .i64 x.pc.b2) := e1 3 _ rfl
      have ce4 : wr.cell? ⟨b1, i * 6 + 4, none⟩ = some (.int .i64 x.pc.sz) := e1 4 _ rfl
      have ce5 : wr.cell? ⟨b1, i * 6 + 5, none⟩ = some (.string x.pc.et) := e1 5 _ rfl
      clear e1 Hx kx
      obtain ⟨v, Hv⟩ := nm (byP m x)
      have HIS : Hid (isB (byP m) X = decide (v = 0)) := by
       show _ = _
       unfold isB
       rw [HPI.out, <- Hv.out]
       simp [EX.out]
      go_wp2_with (go_at_call 103; refine (byNumber_n (x := x) (show Hid _ from rfl) m).mono ?_; rintro e w3 ⟨rfl, H3⟩; rw [Hv.out])
      go_ret2
      refine ⟨?_, HB.out.trans (H3.out.mono HB.out.size)⟩
      rw [HPI.out, HIS.out]
      by_cases h0 : v = 0 <;> simp [h0]
    . have i4 : ¬ ((i : Int) < (n : Int)) := by omega
      have HIS : Hid (isB (byP m) X = false) := by
       show _ = _
       unfold isB
       rw [HPI.out, List.getElem?_eq_none (by rw [LD.out]; omega)]
       rfl
      go_wp2
      go_ret2
      refine ⟨?_, HB.out⟩
      rw [HPI.out, HIS.out]
      first | rfl | simp
theorem findP {w : World} {lo hi : Nat} {a : Option Addr} {n c : Nat} {X : List Ptd} (m : Int) (hA : Hid (Rw w lo hi 108 EPt a n c X)) (hn : n <= 1048576) :
  Calls Tryz.prog 122 #[.slice a n c,.int .i64 m, .func (.func 103) #[] #[]] w fun e w' => e = .returned (.tuple #[.int .i64 (plcB (byP m) X : Nat), .bool (isB (byP m) X)]) /\ Hid (Below w.heap.size w w') := by
 go_enter Tryz.func122, Tryz.ntmps122
 go_wp2_with (go_at_call 142; refine (bsfP m hA hn).mono ?_; rintro e w1 ⟨rfl, H1⟩)
 go_ret2
 exact ⟨rfl, H1.out⟩
set_option maxHeartbeats 8000000 in
theorem bsfF {w : World} {lo hi : Nat} {a : Option Addr} {n c : Nat} {X : List Idd} (m : Int) (hA : Hid (Rw w lo hi 24 EId a n c X)) (hn : n <= 1048576) :
  Calls Tryz.prog 132 #[.slice a n c,.int .i64 m, .func (.func 110) #[] #[]] w fun e w' => e = .returned (.tuple #[.int .i64 (plcB (byF m) X : Nat), .bool (isB (byF m) X)]) /\ Hid (Below w.heap.size w w') := by
 have LX : Hid (n = X.length) := hA.out.len
 have LD : Hid (X.length = n) := by show _ = _; exact LX.out.symm
 obtain ⟨p, Hp⟩ : ∃ p : Nat -> Bool, Hid ((fun h => (X[h]?).any (fun x => decide (byF m x < 0))) = p) := ⟨_, rfl⟩
 have HPL : Hid (plcB (byF m) X = bsr p n 0 n) := by show _ = _; unfold plcB; rw [Hp.out, LD.out]
 have HPX : Hid (∀ h x, X[h]? = some x -> p h = decide (byF m x < 0)) := fun h x hx => by rw [<- Hp.out]; simp [hx]
 go_enter Tryz.func132, Tryz.ntmps132
 go_wp2
 go_loopw [9, 10] (fun t9 t10 wr => ∃ (i j : Nat), i <= j /\ j <= n /\ t9 = .int .i64 i /\ t10 = .int .i64 j /\ Hid (bsr p n i j = bsr p n 0 n) /\ Hid (Below w.heap.size w wr)) (fun t9 t10 _ => (intOf t10).toNat - (intOf t9).toNat)
 case atStart => exact ⟨0, n, by omega, by omega, rfl, rfl, rfl, Below.refl _ _⟩
 case round =>
  obtain ⟨i, j, hij, hjn, rfl, rfl, HI, HB⟩ := hrel
  by_cases hlt : i < j
  . have i3 : (i : Int) < (j : Int) := by omega
    obtain ⟨h, Hh⟩ := nm ((i + j) / 2)
    have hh : ((i : Int) + (j : Int)) / 2 = (h : Int) := by have := Hh.out; omega
    have hi2 : i <= h /\ h < j := by have := Hh.out; omega
    have hhn : h < n := by omega
    have kx : h < X.length := by rw [<- LX.out]; exact hhn
    obtain ⟨b1, rfl, _, _, e1⟩ := (hA.out.below HB.out).at_ kx
    obtain ⟨x, Hx⟩ := nm (X[h])
    rw [Hx.out] at e1
    have EX : Hid (X[h]? = some x) := by show _ = _; rw [<- Hx.out]; exact List.getElem?_eq_getElem kx
    obtain ⟨A, HA⟩ : ∃ A, Hid (A = (EId.e x).toArray) := ⟨_, rfl⟩
    have E1 : Hid (wr.rangeAt b1 (h * 3) (EId.e x)) := e1
    have ST := bsr_step p (k := n) (lo := i) (hi := j) (by omega) hlt
    rw [Hh.out, HPX.out h x EX.out] at ST
    have HST : Hid (bsr p n i j = if decide (byF m x < 0) = true then bsr p n (h + 1) j else bsr p n i h) := ST
    clear e1 ST Hx kx
    obtain ⟨v, Hv⟩ := nm (byF m x)
    by_cases hv : v < 0
    . have HN : Hid (bsr p n (h + 1) j = bsr p n 0 n) := by show _ = _; rw [<- HI.out, HST.out, Hv.out, if_pos (decide_eq_true hv)]
      go_wp2_with (first
       | (refine wpList_load_mid (by rfl) 24 (.tmp 27) (by rfl) b1 (h * 3) (by rfl) (EId.e x) _ E1.out Tryz.underlying24 rfl (by rw [EId.len]; exact inz24) ?_; rw [<- HA.out])
       | (go_at_call 110; refine (byNode_n HA m).mono ?_; rintro e w3 ⟨rfl, H3⟩; rw [Hv.out]))
      go_roundw
      case rel => exact ⟨h + 1, j, by omega, hjn, by go_num, rfl, HN.out, HB.out.trans (H3.out.mono HB.out.size)⟩
      case measure => simp [intOf]; omega
    . have hv2 : ¬ (v < 0) := hv
      have HN : Hid (bsr p n i h = bsr p n 0 n) := by show _ = _; rw [<- HI.out, HST.out, Hv.out, if_neg (by simpa using hv)]
      go_wp2_with (first
       | (refine wpList_load_mid (by rfl) 24 (.tmp 27) (by rfl) b1 (h * 3) (by rfl) (EId.e x) _ E1.out Tryz.underlying24 rfl (by rw [EId.len]; exact inz24) ?_; rw [<- HA.out])
       | (go_at_call 110; refine (byNode_n HA m).mono ?_; rintro e w3 ⟨rfl, H3⟩; rw [Hv.out]))
      go_roundw
      case rel => exact ⟨i, h, by omega, by omega, rfl, rfl, HN.out, HB.out.trans (H3.out.mono HB.out.size)⟩
      case measure => simp [intOf]; omega
  . obtain rfl : i = j := by omega
    have HPI : Hid (plcB (byF m) X = i) := by show _ = _; rw [HPL.out, <- HI.out, bsr_done _ _ _ _ (by omega)]
    by_cases hin : i < n
    . have i3 : (i : Int) < (n : Int) := by omega
      have kx : i < X.length := by rw [<- LX.out]; exact hin
      obtain ⟨b1, rfl, _, _, e1⟩ := (hA.out.below HB.out).at_ kx
      obtain ⟨x, Hx⟩ := nm (X[i])
      rw [Hx.out] at e1
      have EX : Hid (X[i]? = some x) := by show _ = _; rw [<- Hx.out]; exact List.getElem?_eq_getElem kx
      have ce0 : wr.cell? ⟨b1, i * 3, none⟩ = some (.int .i64 x.i0) := e1 0 _ rfl
      have ce1 : wr.cell? ⟨b1, i * 3 + 1, none⟩ = some (.int .i64 x.i1) := e1 1 _ rfl
      have ce2 : wr.cell? ⟨b1, i * 3 + 2, none⟩ = some (.int .i64 x.i2) := e1 2 _ rfl
      clear e1 Hx kx
      obtain ⟨v, Hv⟩ := nm (byF m x)
      have HIS : Hid (isB (byF m) X = decide (v = 0)) := by
       show _ = _
       unfold isB
       rw [HPI.out, <- Hv.out]
       simp [EX.out]
      go_wp2_with (go_at_call 110; refine (byNode_n (x := x) (show Hid _ from rfl) m).mono ?_; rintro e w3 ⟨rfl, H3⟩; rw [Hv.out])
      go_ret2
      refine ⟨?_, HB.out.trans (H3.out.mono HB.out.size)⟩
      rw [HPI.out, HIS.out]
      by_cases h0 : v = 0 <;> simp [h0]
    . have i4 : ¬ ((i : Int) < (n : Int)) := by omega
      have HIS : Hid (isB (byF m) X = false) := by
       show _ = _
       unfold isB
       rw [HPI.out, List.getElem?_eq_none (by rw [LD.out]; omega)]
       rfl
      go_wp2
      go_ret2
      refine ⟨?_, HB.out⟩
      rw [HPI.out, HIS.out]
      first | rfl | simp
theorem findF {w : World} {lo hi : Nat} {a : Option Addr} {n c : Nat} {X : List Idd} (m : Int) (hA : Hid (Rw w lo hi 24 EId a n c X)) (hn : n <= 1048576) :
  Calls Tryz.prog 109 #[.slice a n c,.int .i64 m, .func (.func 110) #[] #[]] w fun e w' => e = .returned (.tuple #[.int .i64 (plcB (byF m) X : Nat), .bool (isB (byF m) X)]) /\ Hid (Below w.heap.size w w') := by
 go_enter Tryz.func109, Tryz.ntmps109
 go_wp2_with (go_at_call 132; refine (bsfF m hA hn).mono ?_; rintro e w1 ⟨rfl, H1⟩)
 go_ret2
 exact ⟨rfl, H1.out⟩
end Go.Proofs.YtfabnnbljkkihaaGreatDoor
