import Derived.Test.YtppibcambhmomaaDoorPp
import Derived.Test.YtppibcambhmomaaDoorP05
import Derived.Test.YtppibcambhmomaaDoorP06
namespace Go.Proofs.YtppibcambhmomaaDoor
open Go.ChangeShapes Go.WideShapes Go.ChangeAt Go.RowKit
set_option maxRecDepth 20000
set_option linter.unusedVariables false
set_option linter.unusedSimpArgs false
def ndT (n : Int) : Bool := decide (0 <= n /\ n < 16)
def lgT (r n : Int) : Bool := decide (1 <= r /\ r <= 1099511627776 /\ 0 <= n /\ n < 16)
abbrev bal (r n : Int) : Value := .agg #[.int .i64 r,.int .i64 n]
theorem eqBal (a b c d : Int) (w : World) : (Op.equalIn 10000 25 (bal a b) (bal c d)).run Tryd.prog w = .ok (decide (a = c /\ b = d)) w := by
 rw [run_equalIn_struct w 9999 25 _ _ (by kernel_rfl) (by kernel_rfl)]
 simp only [Program.fieldsOf, Tryd.underlying25]
 refine Eq.trans (fstep (by decide) (partI _ _ a rfl w) (partI _ _ c rfl w) (eqI _ a c w) (fstep (by decide) (partI _ _ b rfl w) (partI _ _ d rfl w) (eqI _ b d w) (fend _ _ _ w))) ?_
 congr 1
 simp
structure Mc where
 K : Int
 F : Int
 T : Int
 t0 : Int
 t1 : Int
 t2 : Int
 b0 : Int
 b1 : Int
 a0 : Int
 a1 : Int
 la : Option Addr
 ln : Nat
 lc : Nat
 B0 : Int
 B1 : Int
 B2 : Int
 ok : Bool
 fa : Option Addr
 fn : Nat
 fc : Nat
def encM (x : Mc) : List Value := [.int .i64 x.K,.int .i64 x.F,.int .i64 x.T,.int .i64 x.t0,.int .i64 x.t1,.int .i64 x.t2,.int .i64 x.b0,.int .i64 x.b1,.int .i64 x.a0,.int .i64 x.a1,.slice x.la x.ln x.lc,.int .i64 x.B0,.int .i64 x.B1,.int .i64 x.B2,.bool x.ok,.slice x.fa x.fn x.fc]
theorem encM_one (x : Mc) : ∀ v ∈ encM x, v.oneCell' = true := fun v hv => by
 simp only [encM, List.mem_cons, List.not_mem_nil, or_false] at hv
 rcases hv with rfl | rfl | rfl | rfl | rfl | rfl | rfl | rfl | rfl | rfl | rfl | rfl | rfl | rfl | rfl | rfl <;> rfl
theorem encM_sz {A : Array Value} {x : Mc} (h : A = (encM x).toArray) : A.size = 16 := by rw [h]; rfl
theorem encM_all {A : Array Value} {x : Mc} (h : A = (encM x).toArray) : A.all (·.oneCell') = true := by rw [h]; exact all_oneCell_toArray (encM_one _)
theorem info29 {A : Array Value} (h : A.size = 16) : (Tryd.prog.info? 29).map (·.size) = some A.size := by rw [h]; kernel_rfl
theorem info62 {A : Array Value} (h : A.size = 6) : (Tryd.prog.info? 62).map (·.size) = some A.size := by rw [h]; kernel_rfl
theorem all_b6 (a b c d e f : Bool) : (#[.bool a,.bool b,.bool c,.bool d,.bool e,.bool f] : Array Value).all (·.oneCell') = true := all_oneCell_toArray (fun v hv => by
 simp only [List.mem_cons, List.not_mem_nil, or_false] at hv
 rcases hv with rfl | rfl | rfl | rfl | rfl | rfl <;> rfl)
structure Ms (w : World) (x : Mc) (X : List Cx) (L : List Nat) : Prop where
 led : Cms w 0 x.la x.ln X
 fr : Sln w x.fa x.fn L
 lz : x.la = none -> x.lc = 0
 fz : x.fa = none -> x.fc = 0
 fle : x.fn <= x.fc
 flt : ∀ y ∈ L, y < 256
def kM (k : Int) : Bool := decide (1 <= k /\ k <= 9)
def gB (k : Int) : Bool := decide (1 <= k /\ k <= 5)
def gA (k : Int) (s : Bool) : Bool := decide (k = 5) || (decide (k = 2) && s)
def gL (k : Int) (s : Bool) : Bool := decide (k = 3) || (decide (k = 2) && s)
def gP (k : Int) : Bool := decide (6 <= k /\ k <= 9)
def gO (k : Int) : Bool := decide (k = 7 ∨ k = 9)
def gF (k : Int) (ok : Bool) : Bool := decide (k = 6) || (decide (k = 9) && ok)
def fcM (k : Int) (s ok : Bool) : Array Value := #[.bool (gB k),.bool (gA k s),.bool (gL k s),.bool (gP k),.bool (gO k),.bool (gF k ok)]
def ldT (n : Nat) (X : List Cm) : Bool := decide (n <= 4096) && X.all frm
def mf (x : Mc) (X : List Cm) : Bool := kM x.K && (ndT x.F && (ndT x.T && (gdI x.t0 x.t1 x.t2 && (goz (gB x.K) (lgT x.b0 x.b1) (decide (x.b0 = 0 /\ x.b1 = 0)) && (goz (gA x.K (!decide (x.a0 = 0 /\ x.a1 = 0))) (lgT x.a0 x.a1) (decide (x.a0 = 0 /\ x.a1 = 0)) && (goz (gP x.K) (gdI x.B0 x.B1 x.B2) (decide (x.B0 = 0 /\ x.B1 = 0 /\ x.B2 = 0)) && (goz (gO x.K) true (!x.ok) && (goz (gF x.K x.ok) (decide ((x.fn : Int) <= 4096)) (decide ((x.fn : Int) = 0)) && goz (gL x.K (!decide (x.a0 = 0 /\ x.a1 = 0))) (ldT x.ln X) (decide ((x.ln : Int) = 0))))))))))
theorem isNodeM_n (n : Int) (w : World) : Calls Tryd.prog 29 #[.int .i64 n] w fun e w' => e = .returned (.bool (ndT n)) /\ w' = w := by
 by_cases h1 : 0 <= n
 . by_cases h2 : n < 16
   . have E : Hid (ndT n = true) := decide_eq_true ⟨h1, h2⟩
     go_enter Tryd.func29, Tryd.ntmps29
     go_wp2
     go_ret
     exact ⟨retB E.out, rfl⟩
   . have E : Hid (ndT n = false) := decide_eq_false (fun h => h2 h.2)
     go_enter Tryd.func29, Tryd.ntmps29
     go_wp2
     go_ret
     exact ⟨retB E.out, rfl⟩
 . have E : Hid (ndT n = false) := decide_eq_false (fun h => h1 h.1)
   have h2 : ¬ (n ≥ 0) := h1
   go_enter Tryd.func29, Tryd.ntmps29
   go_wp2
   go_ret
   exact ⟨retB E.out, rfl⟩
theorem isLegalM_n (r n : Int) (w : World) : Calls Tryd.prog 32 #[bal r n] w fun e w' => e = .returned (.bool (lgT r n)) /\ Hid (Below w.heap.size w w') := by
 by_cases h1 : 1 <= r
 . by_cases h2 : r <= 1099511627776
   . have E : Hid (ndT n = lgT r n) := by
      show decide _ = decide _
      exact decide_eq_decide.2 ⟨fun h => ⟨h1, h2, h⟩, fun h => h.2.2⟩
     go_enter Tryd.func32, Tryd.ntmps32
     go_wp2_with (go_at_call 29; refine (isNodeM_n n _).mono ?_; rintro e w1 ⟨rfl, h0⟩; rw [h0, E.out]; clear h0)
     go_ret
     exact ⟨rfl, alloc1 _ _⟩
   . have E : Hid (lgT r n = false) := decide_eq_false (fun h => h2 h.2.1)
     go_enter Tryd.func32, Tryd.ntmps32
     go_wp2
     go_ret
     exact ⟨retB E.out, alloc1 _ _⟩
 . have E : Hid (lgT r n = false) := decide_eq_false (fun h => h1 h.1)
   go_enter Tryd.func32, Tryd.ntmps32
   go_wp2
   go_ret
   exact ⟨retB E.out, alloc1 _ _⟩
theorem legalM_n (r n : Int) (w : World) : Calls Tryd.prog 21 #[bal r n] w fun e w' => e = .returned (.bool (lgT r n)) /\ Hid (Below w.heap.size w w') := by
 by_cases h1 : 1 <= r
 . by_cases h2 : r <= 1099511627776
   . by_cases h3 : 0 <= n
     . by_cases h4 : n <= 15
       . have E : Hid (lgT r n = true) := decide_eq_true ⟨h1, h2, h3, by omega⟩
         go_enter Tryd.func21, Tryd.ntmps21
         go_wp2
         go_ret
         exact ⟨retB E.out, alloc1 _ _⟩
       . have E : Hid (lgT r n = false) := decide_eq_false (fun h => h4 (by omega))
         go_enter Tryd.func21, Tryd.ntmps21
         go_wp2
         go_ret
         exact ⟨retB E.out, alloc1 _ _⟩
     . have E : Hid (lgT r n = false) := decide_eq_false (fun h => h3 h.2.2.1)
       go_enter Tryd.func21, Tryd.ntmps21
       go_wp2
       go_ret
       exact ⟨retB E.out, alloc1 _ _⟩
   . have E : Hid (lgT r n = false) := decide_eq_false (fun h => h2 h.2.1)
     go_enter Tryd.func21, Tryd.ntmps21
     go_wp2
     go_ret
     exact ⟨retB E.out, alloc1 _ _⟩
 . have E : Hid (lgT r n = false) := decide_eq_false (fun h => h1 h.1)
   go_enter Tryd.func21, Tryd.ntmps21
   go_wp2
   go_ret
   exact ⟨retB E.out, alloc1 _ _⟩
theorem gozM_n (h g z : Bool) (w : World) : Calls Tryd.prog 31 #[.bool h,.bool g,.bool z] w fun e w' => e = .returned (.bool (goz h g z)) /\ w' = w := by
 cases h with
 | false =>
   go_enter Tryd.func31, Tryd.ntmps31
   go_wp2
   go_ret
   exact ⟨rfl, rfl⟩
 | true =>
   go_enter Tryd.func31, Tryd.ntmps31
   go_wp2
   go_ret
   exact ⟨rfl, rfl⟩
set_option maxHeartbeats 8000000 in
theorem fieldsM_n {w : World} {x : Mc} {A : Array Value} {s ok : Bool} (hA : Hid (A = (encM x).toArray)) (hs : Hid ((!decide (x.a0 = 0 /\ x.a1 = 0)) = s)) (hok : Hid (x.ok = ok)) : Calls Tryd.prog 28 #[.agg A] w fun e w' => e = .returned (.tuple #[.agg (fcM x.K s ok),.bool (kM x.K)]) /\ Hid (Below w.heap.size w w') := by
 have a16 : A.size = 16 := encM_sz hA.out
 obtain ⟨k, hk⟩ := nm (x.K)
 obtain ⟨p, hp⟩ := nm (x.a0)
 obtain ⟨q, hq⟩ := nm (x.a1)
 rw [hk.out]
 rw [hp.out, hq.out] at hs
 have z0 : decide (p = 0 /\ q = 0) = !s := by rw [<- hs.out]; simp
 have EZ : ∀ w, (Op.equalIn 10000 25 (bal p q) (bal 0 0)).run Tryd.prog w = .ok (!s) w := fun w => by rw [eqBal, z0]
 obtain ⟨g1, Hg1⟩ := nm (w.heap.size)
 obtain ⟨g2, Hg2⟩ := nm (w.heap.size + 1)
 have G2 : Hid (g1 + 1 = g2) := by rw [<- Hg1.out]; exact Hg2.out
 obtain ⟨w1, Hw1⟩ := nm ((w.alloc (.cells A 29)).alloc (.cells #[.bool false,.bool false,.bool false,.bool false,.bool false,.bool false] 62))
 have B1 : Hid (Below w.heap.size w w1) := by rw [<- Hw1.out]; exact alloc2 w _ _
 have k1 : Hid (w1.heap[g1]? = some (.cells A 29 (0, 0))) := by
  rw [<- Hw1.out, <- Hg1.out]
  exact ((alloc1 _ _).block w.heap.size (by simp)).trans (heap_alloc_new w _)
 have k2 : Hid (w1.heap[g2]? = some (.cells #[.bool false,.bool false,.bool false,.bool false,.bool false,.bool false] 62 (0, 0))) := by
  rw [<- Hw1.out, <- Hg2.out]
  show _ = _
  have h := heap_alloc_new (w.alloc (.cells A 29)) (.cells #[.bool false,.bool false,.bool false,.bool false,.bool false,.bool false] 62)
  simpa using h
 have x0 : w1.cell? ⟨g1, 0, none⟩ = some (.int .i64 k) := by simp [World.cell?, k1.out, hA.out, encM, hk.out]
 have x8 : w1.cell? ⟨g1, 8, none⟩ = some (.int .i64 p) := by simp [World.cell?, k1.out, hA.out, encM, hp.out]
 have x9 : w1.cell? ⟨g1, 9, none⟩ = some (.int .i64 q) := by simp [World.cell?, k1.out, hA.out, encM, hq.out]
 have x14 : w1.cell? ⟨g1, 14, none⟩ = some (.bool ok) := by simp [World.cell?, k1.out, hA.out, encM, hok.out]
 go_enter Tryd.func28, Tryd.ntmps28
 go_upto_region 1 with (fail)
 rw [Hw1.out, Hg1.out, G2.out]
 by_cases h1 : k = 1
 . skip
   subst h1
   have FE : Hid (fcM 1 s ok = #[.bool true,.bool false,.bool false,.bool false,.bool false,.bool false] /\ kM 1 = true) := ⟨by simp [fcM, gB, gA, gL, gP, gO, gF], by rfl⟩
   go_wp2_with (refine wpList_store_row (by rfl) 62 (.tmp 2) (.tmp 10) (by rfl) g2 #[.bool true,.bool false,.bool false,.bool false,.bool false,.bool false] (by rfl) (by rfl) 62 _ k2.out (info62 (by rfl)) (by rfl) (all_b6 _ _ _ _ _ _) ?_)
   have K2 := setRow_heap w1 g2 _ #[.bool true,.bool false,.bool false,.bool false,.bool false,.bool false] 62 (0, 0) k2.out
   have c0 : (w1.setRow g2 #[.bool true,.bool false,.bool false,.bool false,.bool false,.bool false]).cell? ⟨g2, 0, none⟩ = some (.bool true) := by simp [World.cell?, K2]
   have c1 : (w1.setRow g2 #[.bool true,.bool false,.bool false,.bool false,.bool false,.bool false]).cell? ⟨g2, 1, none⟩ = some (.bool false) := by simp [World.cell?, K2]
   have c2 : (w1.setRow g2 #[.bool true,.bool false,.bool false,.bool false,.bool false,.bool false]).cell? ⟨g2, 2, none⟩ = some (.bool false) := by simp [World.cell?, K2]
   have c3 : (w1.setRow g2 #[.bool true,.bool false,.bool false,.bool false,.bool false,.bool false]).cell? ⟨g2, 3, none⟩ = some (.bool false) := by simp [World.cell?, K2]
   have c4 : (w1.setRow g2 #[.bool true,.bool false,.bool false,.bool false,.bool false,.bool false]).cell? ⟨g2, 4, none⟩ = some (.bool false) := by simp [World.cell?, K2]
   have c5 : (w1.setRow g2 #[.bool true,.bool false,.bool false,.bool false,.bool false,.bool false]).cell? ⟨g2, 5, none⟩ = some (.bool false) := by simp [World.cell?, K2]
   refine bodyPost_ret (v := .tuple #[.agg #[.bool true,.bool false,.bool false,.bool false,.bool false,.bool false],.bool true]) (by simp [results, Tryd.results28, go_sem, c0, c1, c2, c3, c4, c5]) rfl ?_
   exact ⟨by rw [FE.out.1, FE.out.2], below_setRow B1.out (by have := Hg2.out; omega) _⟩
 . skip
   by_cases h4 : k = 4
   . skip
     subst h4
     have FE : Hid (fcM 4 s ok = #[.bool true,.bool false,.bool false,.bool false,.bool false,.bool false] /\ kM 4 = true) := ⟨by simp [fcM, gB, gA, gL, gP, gO, gF], by rfl⟩
     go_wp2_with (refine wpList_store_row (by rfl) 62 (.tmp 2) (.tmp 10) (by rfl) g2 #[.bool true,.bool false,.bool false,.bool false,.bool false,.bool false] (by rfl) (by rfl) 62 _ k2.out (info62 (by rfl)) (by rfl) (all_b6 _ _ _ _ _ _) ?_)
     have K2 := setRow_heap w1 g2 _ #[.bool true,.bool false,.bool false,.bool false,.bool false,.bool false] 62 (0, 0) k2.out
     have c0 : (w1.setRow g2 #[.bool true,.bool false,.bool false,.bool false,.bool false,.bool false]).cell? ⟨g2, 0, none⟩ = some (.bool true) := by simp [World.cell?, K2]
     have c1 : (w1.setRow g2 #[.bool true,.bool false,.bool false,.bool false,.bool false,.bool false]).cell? ⟨g2, 1, none⟩ = some (.bool false) := by simp [World.cell?, K2]
     have c2 : (w1.setRow g2 #[.bool true,.bool false,.bool false,.bool false,.bool false,.bool false]).cell? ⟨g2, 2, none⟩ = some (.bool false) := by simp [World.cell?, K2]
     have c3 : (w1.setRow g2 #[.bool true,.bool false,.bool false,.bool false,.bool false,.bool false]).cell? ⟨g2, 3, none⟩ = some (.bool false) := by simp [World.cell?, K2]
     have c4 : (w1.setRow g2 #[.bool true,.bool false,.bool false,.bool false,.bool false,.bool false]).cell? ⟨g2, 4, none⟩ = some (.bool false) := by simp [World.cell?, K2]
     have c5 : (w1.setRow g2 #[.bool true,.bool false,.bool false,.bool false,.bool false,.bool false]).cell? ⟨g2, 5, none⟩ = some (.bool false) := by simp [World.cell?, K2]
     refine bodyPost_ret (v := .tuple #[.agg #[.bool true,.bool false,.bool false,.bool false,.bool false,.bool false],.bool true]) (by simp [results, Tryd.results28, go_sem, c0, c1, c2, c3, c4, c5]) rfl ?_
     exact ⟨by rw [FE.out.1, FE.out.2], below_setRow B1.out (by have := Hg2.out; omega) _⟩
   . skip
     by_cases h2 : k = 2
     . skip
       subst h2
       have FE : Hid (fcM 2 s ok = #[.bool true,.bool s,.bool s,.bool false,.bool false,.bool false] /\ kM 2 = true) := ⟨by simp [fcM, gB, gA, gL, gP, gO, gF], by rfl⟩
       go_wp2_with (refine wpList_store_row (by rfl) 62 (.tmp 2) (.tmp 19) (by rfl) g2 #[.bool true,.bool s,.bool s,.bool false,.bool false,.bool false] (by rfl) (by rfl) 62 _ k2.out (info62 (by rfl)) (by rfl) (all_b6 _ _ _ _ _ _) ?_)
       have K2 := setRow_heap w1 g2 _ #[.bool true,.bool s,.bool s,.bool false,.bool false,.bool false] 62 (0, 0) k2.out
       have c0 : (w1.setRow g2 #[.bool true,.bool s,.bool s,.bool false,.bool false,.bool false]).cell? ⟨g2, 0, none⟩ = some (.bool true) := by simp [World.cell?, K2]
       have c1 : (w1.setRow g2 #[.bool true,.bool s,.bool s,.bool false,.bool false,.bool false]).cell? ⟨g2, 1, none⟩ = some (.bool s) := by simp [World.cell?, K2]
       have c2 : (w1.setRow g2 #[.bool true,.bool s,.bool s,.bool false,.bool false,.bool false]).cell? ⟨g2, 2, none⟩ = some (.bool s) := by simp [World.cell?, K2]
       have c3 : (w1.setRow g2 #[.bool true,.bool s,.bool s,.bool false,.bool false,.bool false]).cell? ⟨g2, 3, none⟩ = some (.bool false) := by simp [World.cell?, K2]
       have c4 : (w1.setRow g2 #[.bool true,.bool s,.bool s,.bool false,.bool false,.bool false]).cell? ⟨g2, 4, none⟩ = some (.bool false) := by simp [World.cell?, K2]
       have c5 : (w1.setRow g2 #[.bool true,.bool s,.bool s,.bool false,.bool false,.bool false]).cell? ⟨g2, 5, none⟩ = some (.bool false) := by simp [World.cell?, K2]
       refine bodyPost_ret (v := .tuple #[.agg #[.bool true,.bool s,.bool s,.bool false,.bool false,.bool false],.bool true]) (by simp [results, Tryd.results28, go_sem, c0, c1, c2, c3, c4, c5]) rfl ?_
       exact ⟨by rw [FE.out.1, FE.out.2], below_setRow B1.out (by have := Hg2.out; omega) _⟩
     . skip
       by_cases h3 : k = 3
       . skip
         subst h3
         have FE : Hid (fcM 3 s ok = #[.bool true,.bool false,.bool true,.bool false,.bool false,.bool false] /\ kM 3 = true) := ⟨by simp [fcM, gB, gA, gL, gP, gO, gF], by rfl⟩
         go_wp2_with (refine wpList_store_row (by rfl) 62 (.tmp 2) (.tmp 22) (by rfl) g2 #[.bool true,.bool false,.bool true,.bool false,.bool false,.bool false] (by rfl) (by rfl) 62 _ k2.out (info62 (by rfl)) (by rfl) (all_b6 _ _ _ _ _ _) ?_)
         have K2 := setRow_heap w1 g2 _ #[.bool true,.bool false,.bool true,.bool false,.bool false,.bool false] 62 (0, 0) k2.out
         have c0 : (w1.setRow g2 #[.bool true,.bool false,.bool true,.bool false,.bool false,.bool false]).cell? ⟨g2, 0, none⟩ = some (.bool true) := by simp [World.cell?, K2]
         have c1 : (w1.setRow g2 #[.bool true,.bool false,.bool true,.bool false,.bool false,.bool false]).cell? ⟨g2, 1, none⟩ = some (.bool false) := by simp [World.cell?, K2]
         have c2 : (w1.setRow g2 #[.bool true,.bool false,.bool true,.bool false,.bool false,.bool false]).cell? ⟨g2, 2, none⟩ = some (.bool true) := by simp [World.cell?, K2]
         have c3 : (w1.setRow g2 #[.bool true,.bool false,.bool true,.bool false,.bool false,.bool false]).cell? ⟨g2, 3, none⟩ = some (.bool false) := by simp [World.cell?, K2]
         have c4 : (w1.setRow g2 #[.bool true,.bool false,.bool true,.bool false,.bool false,.bool false]).cell? ⟨g2, 4, none⟩ = some (.bool false) := by simp [World.cell?, K2]
         have c5 : (w1.setRow g2 #[.bool true,.bool false,.bool true,.bool false,.bool false,.bool false]).cell? ⟨g2, 5, none⟩ = some (.bool false) := by simp [World.cell?, K2]
         refine bodyPost_ret (v := .tuple #[.agg #[.bool true,.bool false,.bool true,.bool false,.bool false,.bool false],.bool true]) (by simp [results, Tryd.results28, go_sem, c0, c1, c2, c3, c4, c5]) rfl ?_
         exact ⟨by rw [FE.out.1, FE.out.2], below_setRow B1.out (by have := Hg2.out; omega) _⟩
       . skip
         by_cases h5 : k = 5
         . skip
           subst h5
           have FE : Hid (fcM 5 s ok = #[.bool true,.bool true,.bool false,.bool false,.bool false,.bool false] /\ kM 5 = true) := ⟨by simp [fcM, gB, gA, gL, gP, gO, gF], by rfl⟩
           go_wp2_with (refine wpList_store_row (by rfl) 62 (.tmp 2) (.tmp 25) (by rfl) g2 #[.bool true,.bool true,.bool false,.bool false,.bool false,.bool false] (by rfl) (by rfl) 62 _ k2.out (info62 (by rfl)) (by rfl) (all_b6 _ _ _ _ _ _) ?_)
           have K2 := setRow_heap w1 g2 _ #[.bool true,.bool true,.bool false,.bool false,.bool false,.bool false] 62 (0, 0) k2.out
           have c0 : (w1.setRow g2 #[.bool true,.bool true,.bool false,.bool false,.bool false,.bool false]).cell? ⟨g2, 0, none⟩ = some (.bool true) := by simp [World.cell?, K2]
           have c1 : (w1.setRow g2 #[.bool true,.bool true,.bool false,.bool false,.bool false,.bool false]).cell? ⟨g2, 1, none⟩ = some (.bool true) := by simp [World.cell?, K2]
           have c2 : (w1.setRow g2 #[.bool true,.bool true,.bool false,.bool false,.bool false,.bool false]).cell? ⟨g2, 2, none⟩ = some (.bool false) := by simp [World.cell?, K2]
           have c3 : (w1.setRow g2 #[.bool true,.bool true,.bool false,.bool false,.bool false,.bool false]).cell? ⟨g2, 3, none⟩ = some (.bool false) := by simp [World.cell?, K2]
           have c4 : (w1.setRow g2 #[.bool true,.bool true,.bool false,.bool false,.bool false,.bool false]).cell? ⟨g2, 4, none⟩ = some (.bool false) := by simp [World.cell?, K2]
           have c5 : (w1.setRow g2 #[.bool true,.bool true,.bool false,.bool false,.bool false,.bool false]).cell? ⟨g2, 5, none⟩ = some (.bool false) := by simp [World.cell?, K2]
           refine bodyPost_ret (v := .tuple #[.agg #[.bool true,.bool true,.bool false,.bool false,.bool false,.bool false],.bool true]) (by simp [results, Tryd.results28, go_sem, c0, c1, c2, c3, c4, c5]) rfl ?_
           exact ⟨by rw [FE.out.1, FE.out.2], below_setRow B1.out (by have := Hg2.out; omega) _⟩
         . skip
           by_cases h6 : k = 6
           . skip
             subst h6
             have FE : Hid (fcM 6 s ok = #[.bool false,.bool false,.bool false,.bool true,.bool false,.bool true] /\ kM 6 = true) := ⟨by simp [fcM, gB, gA, gL, gP, gO, gF], by rfl⟩
             go_wp2_with (refine wpList_store_row (by rfl) 62 (.tmp 2) (.tmp 28) (by rfl) g2 #[.bool false,.bool false,.bool false,.bool true,.bool false,.bool true] (by rfl) (by rfl) 62 _ k2.out (info62 (by rfl)) (by rfl) (all_b6 _ _ _ _ _ _) ?_)
             have K2 := setRow_heap w1 g2 _ #[.bool false,.bool false,.bool false,.bool true,.bool false,.bool true] 62 (0, 0) k2.out
             have c0 : (w1.setRow g2 #[.bool false,.bool false,.bool false,.bool true,.bool false,.bool true]).cell? ⟨g2, 0, none⟩ = some (.bool false) := by simp [World.cell?, K2]
             have c1 : (w1.setRow g2 #[.bool false,.bool false,.bool false,.bool true,.bool false,.bool true]).cell? ⟨g2, 1, none⟩ = some (.bool false) := by simp [World.cell?, K2]
             have c2 : (w1.setRow g2 #[.bool false,.bool false,.bool false,.bool true,.bool false,.bool true]).cell? ⟨g2, 2, none⟩ = some (.bool false) := by simp [World.cell?, K2]
             have c3 : (w1.setRow g2 #[.bool false,.bool false,.bool false,.bool true,.bool false,.bool true]).cell? ⟨g2, 3, none⟩ = some (.bool true) := by simp [World.cell?, K2]
             have c4 : (w1.setRow g2 #[.bool false,.bool false,.bool false,.bool true,.bool false,.bool true]).cell? ⟨g2, 4, none⟩ = some (.bool false) := by simp [World.cell?, K2]
             have c5 : (w1.setRow g2 #[.bool false,.bool false,.bool false,.bool true,.bool false,.bool true]).cell? ⟨g2, 5, none⟩ = some (.bool true) := by simp [World.cell?, K2]
             refine bodyPost_ret (v := .tuple #[.agg #[.bool false,.bool false,.bool false,.bool true,.bool false,.bool true],.bool true]) (by simp [results, Tryd.results28, go_sem, c0, c1, c2, c3, c4, c5]) rfl ?_
             exact ⟨by rw [FE.out.1, FE.out.2], below_setRow B1.out (by have := Hg2.out; omega) _⟩
           . skip
             by_cases h7 : k = 7
             . skip
               subst h7
               have FE : Hid (fcM 7 s ok = #[.bool false,.bool false,.bool false,.bool true,.bool true,.bool false] /\ kM 7 = true) := ⟨by simp [fcM, gB, gA, gL, gP, gO, gF], by rfl⟩
               go_wp2_with (refine wpList_store_row (by rfl) 62 (.tmp 2) (.tmp 31) (by rfl) g2 #[.bool false,.bool false,.bool false,.bool true,.bool true,.bool false] (by rfl) (by rfl) 62 _ k2.out (info62 (by rfl)) (by rfl) (all_b6 _ _ _ _ _ _) ?_)
               have K2 := setRow_heap w1 g2 _ #[.bool false,.bool false,.bool false,.bool true,.bool true,.bool false] 62 (0, 0) k2.out
               have c0 : (w1.setRow g2 #[.bool false,.bool false,.bool false,.bool true,.bool true,.bool false]).cell? ⟨g2, 0, none⟩ = some (.bool false) := by simp [World.cell?, K2]
               have c1 : (w1.setRow g2 #[.bool false,.bool false,.bool false,.bool true,.bool true,.bool false]).cell? ⟨g2, 1, none⟩ = some (.bool false) := by simp [World.cell?, K2]
               have c2 : (w1.setRow g2 #[.bool false,.bool false,.bool false,.bool true,.bool true,.bool false]).cell? ⟨g2, 2, none⟩ = some (.bool false) := by simp [World.cell?, K2]
               have c3 : (w1.setRow g2 #[.bool false,.bool false,.bool false,.bool true,.bool true,.bool false]).cell? ⟨g2, 3, none⟩ = some (.bool true) := by simp [World.cell?, K2]
               have c4 : (w1.setRow g2 #[.bool false,.bool false,.bool false,.bool true,.bool true,.bool false]).cell? ⟨g2, 4, none⟩ = some (.bool true) := by simp [World.cell?, K2]
               have c5 : (w1.setRow g2 #[.bool false,.bool false,.bool false,.bool true,.bool true,.bool false]).cell? ⟨g2, 5, none⟩ = some (.bool false) := by simp [World.cell?, K2]
               refine bodyPost_ret (v := .tuple #[.agg #[.bool false,.bool false,.bool false,.bool true,.bool true,.bool false],.bool true]) (by simp [results, Tryd.results28, go_sem, c0, c1, c2, c3, c4, c5]) rfl ?_
               exact ⟨by rw [FE.out.1, FE.out.2], below_setRow B1.out (by have := Hg2.out; omega) _⟩
             . skip
               by_cases h8 : k = 8
               . skip
                 subst h8
                 have FE : Hid (fcM 8 s ok = #[.bool false,.bool false,.bool false,.bool true,.bool false,.bool false] /\ kM 8 = true) := ⟨by simp [fcM, gB, gA, gL, gP, gO, gF], by rfl⟩
                 go_wp2_with (refine wpList_store_row (by rfl) 62 (.tmp 2) (.tmp 34) (by rfl) g2 #[.bool false,.bool false,.bool false,.bool true,.bool false,.bool false] (by rfl) (by rfl) 62 _ k2.out (info62 (by rfl)) (by rfl) (all_b6 _ _ _ _ _ _) ?_)
                 have K2 := setRow_heap w1 g2 _ #[.bool false,.bool false,.bool false,.bool true,.bool false,.bool false] 62 (0, 0) k2.out
                 have c0 : (w1.setRow g2 #[.bool false,.bool false,.bool false,.bool true,.bool false,.bool false]).cell? ⟨g2, 0, none⟩ = some (.bool false) := by simp [World.cell?, K2]
                 have c1 : (w1.setRow g2 #[.bool false,.bool false,.bool false,.bool true,.bool false,.bool false]).cell? ⟨g2, 1, none⟩ = some (.bool false) := by simp [World.cell?, K2]
                 have c2 : (w1.setRow g2 #[.bool false,.bool false,.bool false,.bool true,.bool false,.bool false]).cell? ⟨g2, 2, none⟩ = some (.bool false) := by simp [World.cell?, K2]
                 have c3 : (w1.setRow g2 #[.bool false,.bool false,.bool false,.bool true,.bool false,.bool false]).cell? ⟨g2, 3, none⟩ = some (.bool true) := by simp [World.cell?, K2]
                 have c4 : (w1.setRow g2 #[.bool false,.bool false,.bool false,.bool true,.bool false,.bool false]).cell? ⟨g2, 4, none⟩ = some (.bool false) := by simp [World.cell?, K2]
                 have c5 : (w1.setRow g2 #[.bool false,.bool false,.bool false,.bool true,.bool false,.bool false]).cell? ⟨g2, 5, none⟩ = some (.bool false) := by simp [World.cell?, K2]
                 refine bodyPost_ret (v := .tuple #[.agg #[.bool false,.bool false,.bool false,.bool true,.bool false,.bool false],.bool true]) (by simp [results, Tryd.results28, go_sem, c0, c1, c2, c3, c4, c5]) rfl ?_
                 exact ⟨by rw [FE.out.1, FE.out.2], below_setRow B1.out (by have := Hg2.out; omega) _⟩
               . skip
                 by_cases h9 : k = 9
                 . skip
                   subst h9
                   have FE : Hid (fcM 9 s ok = #[.bool false,.bool false,.bool false,.bool true,.bool true,.bool ok] /\ kM 9 = true) := ⟨by simp [fcM, gB, gA, gL, gP, gO, gF], by rfl⟩
                   go_wp2_with (refine wpList_store_row (by rfl) 62 (.tmp 2) (.tmp 39) (by rfl) g2 #[.bool false,.bool false,.bool false,.bool true,.bool true,.bool ok] (by rfl) (by rfl) 62 _ k2.out (info62 (by rfl)) (by rfl) (all_b6 _ _ _ _ _ _) ?_)
                   have K2 := setRow_heap w1 g2 _ #[.bool false,.bool false,.bool false,.bool true,.bool true,.bool ok] 62 (0, 0) k2.out
                   have c0 : (w1.setRow g2 #[.bool false,.bool false,.bool false,.bool true,.bool true,.bool ok]).cell? ⟨g2, 0, none⟩ = some (.bool false) := by simp [World.cell?, K2]
                   have c1 : (w1.setRow g2 #[.bool false,.bool false,.bool false,.bool true,.bool true,.bool ok]).cell? ⟨g2, 1, none⟩ = some (.bool false) := by simp [World.cell?, K2]
                   have c2 : (w1.setRow g2 #[.bool false,.bool false,.bool false,.bool true,.bool true,.bool ok]).cell? ⟨g2, 2, none⟩ = some (.bool false) := by simp [World.cell?, K2]
                   have c3 : (w1.setRow g2 #[.bool false,.bool false,.bool false,.bool true,.bool true,.bool ok]).cell? ⟨g2, 3, none⟩ = some (.bool true) := by simp [World.cell?, K2]
                   have c4 : (w1.setRow g2 #[.bool false,.bool false,.bool false,.bool true,.bool true,.bool ok]).cell? ⟨g2, 4, none⟩ = some (.bool true) := by simp [World.cell?, K2]
                   have c5 : (w1.setRow g2 #[.bool false,.bool false,.bool false,.bool true,.bool true,.bool ok]).cell? ⟨g2, 5, none⟩ = some (.bool ok) := by simp [World.cell?, K2]
                   refine bodyPost_ret (v := .tuple #[.agg #[.bool false,.bool false,.bool false,.bool true,.bool true,.bool ok],.bool true]) (by simp [results, Tryd.results28, go_sem, c0, c1, c2, c3, c4, c5]) rfl ?_
                   exact ⟨by rw [FE.out.1, FE.out.2], below_setRow B1.out (by have := Hg2.out; omega) _⟩
                 . skip
                   have FE : Hid (fcM k s ok = #[.bool false,.bool false,.bool false,.bool false,.bool false,.bool false] /\ kM k = false) := ⟨by simp [fcM, gB, gA, gL, gP, gO, gF, h1, h2, h3, h4, h5, h6, h7, h8, h9]; omega, by simp [kM]; omega⟩
                   go_wp2_with (refine wpList_store_row (by rfl) 62 (.tmp 2) (.tmp 40) (by rfl) g2 #[.bool false,.bool false,.bool false,.bool false,.bool false,.bool false] (by rfl) (by rfl) 62 _ k2.out (info62 (by rfl)) (by rfl) (all_b6 _ _ _ _ _ _) ?_)
                   have K2 := setRow_heap w1 g2 _ #[.bool false,.bool false,.bool false,.bool false,.bool false,.bool false] 62 (0, 0) k2.out
                   have c0 : (w1.setRow g2 #[.bool false,.bool false,.bool false,.bool false,.bool false,.bool false]).cell? ⟨g2, 0, none⟩ = some (.bool false) := by simp [World.cell?, K2]
                   have c1 : (w1.setRow g2 #[.bool false,.bool false,.bool false,.bool false,.bool false,.bool false]).cell? ⟨g2, 1, none⟩ = some (.bool false) := by simp [World.cell?, K2]
                   have c2 : (w1.setRow g2 #[.bool false,.bool false,.bool false,.bool false,.bool false,.bool false]).cell? ⟨g2, 2, none⟩ = some (.bool false) := by simp [World.cell?, K2]
                   have c3 : (w1.setRow g2 #[.bool false,.bool false,.bool false,.bool false,.bool false,.bool false]).cell? ⟨g2, 3, none⟩ = some (.bool false) := by simp [World.cell?, K2]
                   have c4 : (w1.setRow g2 #[.bool false,.bool false,.bool false,.bool false,.bool false,.bool false]).cell? ⟨g2, 4, none⟩ = some (.bool false) := by simp [World.cell?, K2]
                   have c5 : (w1.setRow g2 #[.bool false,.bool false,.bool false,.bool false,.bool false,.bool false]).cell? ⟨g2, 5, none⟩ = some (.bool false) := by simp [World.cell?, K2]
                   refine bodyPost_ret (v := .tuple #[.agg #[.bool false,.bool false,.bool false,.bool false,.bool false,.bool false],.bool false]) (by simp [results, Tryd.results28, go_sem, c0, c1, c2, c3, c4, c5]) rfl ?_
                   exact ⟨by rw [FE.out.1, FE.out.2], below_setRow B1.out (by have := Hg2.out; omega) _⟩
end Go.Proofs.YtppibcambhmomaaDoor
