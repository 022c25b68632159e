import Derived.Test.YtppibcambhmomaaDoorPp
import Derived.Test.YtppibcambhmomaaDoorP07
import Derived.Test.YtppibcambhmomaaDoorP18
import Derived.Test.YtppibcambhmomaaDoorP08
namespace Go.Proofs.YtppibcambhmomaaDoor
open Go.ChangeShapes Go.WideShapes Go.ChangeAt Go.RowKit
set_option maxRecDepth 20000
set_option linter.unusedVariables false
set_option linter.unusedSimpArgs false
structure Wz (w1 : World) (a0 : Option Addr) (W : World) (g3 gW B : Nat) (bx : Array Value) (t3 : TypeId) (a : Option Addr) (n c : Nat) (L : List Nat) (m : Nat) : Prop where
 wri : Wri W gW B a n c L false
 k3 : W.heap[g3]? = some (.cells bx t3 (0, 0))
 ap : ∀ q, blkOf a = some q -> q ≠ g3
 ne : g3 ≠ gW
 hB : B <= W.heap.size
 ln : n <= m
 fr : Wfr w1 W gW a0
 nw : New w1 a0 a
section
variable {w1 W W' : World} {a0 : Option Addr} {g3 gW B : Nat} {bx : Array Value} {t3 : TypeId} {a a' : Option Addr} {n c n' c' : Nat} {L L' : List Nat} {m : Nat}
theorem Wz.c3 (h : Wz w1 a0 W g3 gW B bx t3 a n c L m) (j : Nat) (v : Value) (hv : bx[j]? = some v) : W.cell? ⟨g3, j, none⟩ = some v := by simp [World.cell?, h.k3, hv]
theorem Wz.step (h : Wz w1 a0 W g3 gW B bx t3 a n c L m) {m' : Nat} (hW : Wri W' gW B a' n' c' L' false) (hf : Wfr W W' gW a) (hn : New W a a') (hm : L'.length <= m') : Wz w1 a0 W' g3 gW B bx t3 a' n' c' L' m' := by
 have l3 := (gl h.k3)
 refine ⟨hW, (hf.block g3 l3 h.ne (fun e => (h.ap g3 e.symm) rfl)).trans h.k3, fun q hq => ?_, h.ne, Nat.le_trans h.hB hf.size, by rw [hW.own.len]; exact hm, h.fr.trans hf h.nw, h.nw.trans hn h.fr.size⟩
 rcases hn q hq with h1 | h1
 . exact h.ap q h1
 . omega
theorem Wz.num {N : Nat} (h : Hid (Wz w1 a0 W g3 gW B bx t3 a n c L m)) (hN : N < 9223372036854775808) (hm : m <= 100000000) : Calls Tryd.prog 35 #[.pointer (some ⟨gW, 0, none⟩),.int .i64 (N : Int)] W fun e W' => ∃ a' n' c', e = .returned (.tuple #[]) /\ Hid (Wz w1 a0 W' g3 gW B bx t3 a' n' c' (L ++ enc N) (m + 9)) := by
 have k := h.out
 refine (num_n k.wri hN k.hB (by have := k.ln; show _ <= _; omega)).mono ?_
 rintro e W' ⟨a', n', c', h1, h2⟩
 refine ⟨a', n', c', h1, k.step h2.out.1 h2.out.2.1 h2.out.2.2 ?_⟩
 rw [List.length_append, <- k.wri.own.len]
 have := k.ln
 have := enc_nine hN
 omega
theorem Wz.bytes {sa : Option Addr} {sn sc : Nat} {S : List Nat} (h : Hid (Wz w1 a0 W g3 gW B bx t3 a n c L m)) (hS : Hid (Sln W sa sn S)) (hz : Hid (sa = none -> sc = 0)) (hap : Hid (∀ b off, S ≠ [] -> sa = some ⟨b, off, none⟩ -> b ≠ gW /\ some b ≠ blkOf a)) (hs : sn <= 20000000) (hm : m <= 100000000) : Calls Tryd.prog 37 #[.pointer (some ⟨gW, 0, none⟩),.slice sa sn sc] W fun e W' => ∃ a' n' c', e = .returned (.tuple #[]) /\ Hid (Wz w1 a0 W' g3 gW B bx t3 a' n' c' (L ++ (enc sn ++ S)) (m + 20000009)) := by
 have k := h.out
 refine (wbytes_n k.wri hS hz hap k.hB (by have := k.ln; show _ <= _; omega)).mono ?_
 rintro e W' ⟨a', n', c', h1, h2⟩
 refine ⟨a', n', c', h1, k.step h2.out.1 h2.out.2.1 h2.out.2.2 ?_⟩
 rw [List.length_append, List.length_append, <- k.wri.own.len, <- hS.out.len]
 have := k.ln
 have := enc_nine (n := sn) (by omega)
 omega
end
set_option maxHeartbeats 2000000 in
theorem putId_n {w : World} {gW B : Nat} {a : Option Addr} {n c : Nat} {L : List Nat} {X Y Z : Nat} (hW : Hid (Wri w gW B a n c L false)) (hX : X < 9223372036854775808) (hY : Y < 9223372036854775808) (hZ : Z < 9223372036854775808) (hB : Hid (B <= w.heap.size)) (hb : n <= 10000000) :
  Calls Tryd.prog 40 #[.pointer (some ⟨gW, 0, none⟩), .agg #[.int .i64 (X : Int),.int .i64 (Y : Int),.int .i64 (Z : Int)]] w fun e w' => ∃ a' n' c', e = .returned (.tuple #[]) /\ Hid (Wri w' gW B a' n' c' (L ++ (enc X ++ (enc Y ++ enc Z))) false /\ Wfr w w' gW a /\ New w a a') := by
 obtain ⟨g3, Hg3⟩ := nm (w.heap.size)
 obtain ⟨w1, Hw1⟩ := nm (w.alloc (.cells #[.int .i64 (X : Int),.int .i64 (Y : Int),.int .i64 (Z : Int)] 23))
 have S0 : Hid (Wz w1 a w1 g3 gW B #[.int .i64 (X : Int),.int .i64 (Y : Int),.int .i64 (Z : Int)] 23 a n c L n) := by
  have b : Below w.heap.size w w1 := by rw [<- Hw1.out]; exact alloc1 w _
  have e3 := Hg3.out
  have lt := hW.out.lt
  refine ⟨hW.out.below b, ?_, fun q hq => ?_, by omega, Nat.le_trans hB.out b.size, Nat.le_refl _, Wfr.refl _ _ _, fun q hq => .inl hq⟩
  . rw [<- Hw1.out, <- Hg3.out]
    exact heap_alloc_new w _
  . have := (hW.out.own.ge q hq).2
    omega
 have F0 : Hid (∀ {w' : World} {a' : Option Addr}, Wfr w1 w' gW a -> New w1 a a' -> Wfr w w' gW a /\ New w a a') := fun {w' a'} h h2 => by
  rw [<- Hw1.out] at h h2
  exact ⟨wfr_alloc h, new_alloc h2⟩
 have q0 := S0.out.c3 0 _ rfl
 go_enter Tryd.func40, Tryd.ntmps40
 go_upto_region 1 with (fail)
 rw [Hw1.out, Hg3.out]
 go_upto_region 2 with (go_at_call 35; refine (Wz.num S0 hX (by omega)).mono ?_; rintro e w2 ⟨a2, n2, c2, rfl, S1⟩)
 clear q0
 have q1 := S1.out.c3 1 _ rfl
 go_upto_region 3 with (go_at_call 35; refine (Wz.num S1 hY (by omega)).mono ?_; rintro e w3 ⟨a3, n3, c3, rfl, S2⟩)
 clear q1
 have q2 := S2.out.c3 2 _ rfl
 go_wp2_with (go_at_call 35; refine (Wz.num S2 hZ (by omega)).mono ?_; rintro e w4 ⟨a4, n4, c4, rfl, S3⟩)
 go_end0
 have h := S3.out
 rw [List.append_assoc, List.append_assoc] at h
 exact ⟨a4, n4, c4, rfl, h.wri, F0.out h.fr h.nw⟩
section
variable {w1 W W' : World} {a0 : Option Addr} {g3 gW B : Nat} {bx : Array Value} {t3 : TypeId} {a a' : Option Addr} {n c n' c' : Nat} {L L' : List Nat} {m : Nat}
theorem Wz.id {X Y Z : Nat} (h : Hid (Wz w1 a0 W g3 gW B bx t3 a n c L m)) (hX : X < 9223372036854775808) (hY : Y < 9223372036854775808) (hZ : Z < 9223372036854775808) (hm : m <= 10000000) : Calls Tryd.prog 40 #[.pointer (some ⟨gW, 0, none⟩), .agg #[.int .i64 (X : Int),.int .i64 (Y : Int),.int .i64 (Z : Int)]] W fun e W' => ∃ a' n' c', e = .returned (.tuple #[]) /\ Hid (Wz w1 a0 W' g3 gW B bx t3 a' n' c' (L ++ (enc X ++ (enc Y ++ enc Z))) (m + 27)) := by
 have k := h.out
 refine (putId_n k.wri hX hY hZ k.hB (by have := k.ln; omega)).mono ?_
 rintro e W' ⟨a', n', c', h1, h2⟩
 refine ⟨a', n', c', h1, k.step h2.out.1 h2.out.2.1 h2.out.2.2 ?_⟩
 simp only [List.length_append]
 rw [<- k.wri.own.len]
 have := k.ln
 have := enc_nine hX
 have := enc_nine hY
 have := enc_nine hZ
 omega
end
set_option maxHeartbeats 2000000 in
theorem putBal_n {w : World} {gW B : Nat} {a : Option Addr} {n c : Nat} {L : List Nat} {X Y : Nat} (hW : Hid (Wri w gW B a n c L false)) (hX : X < 9223372036854775808) (hY : Y < 9223372036854775808) (hB : Hid (B <= w.heap.size)) (hb : n <= 10000000) :
  Calls Tryd.prog 41 #[.pointer (some ⟨gW, 0, none⟩), .agg #[.int .i64 (X : Int),.int .i64 (Y : Int)]] w fun e w' => ∃ a' n' c', e = .returned (.tuple #[]) /\ Hid (Wri w' gW B a' n' c' (L ++ (enc X ++ enc Y)) false /\ Wfr w w' gW a /\ New w a a') := by
 obtain ⟨g3, Hg3⟩ := nm (w.heap.size)
 obtain ⟨w1, Hw1⟩ := nm (w.alloc (.cells #[.int .i64 (X : Int),.int .i64 (Y : Int)] 25))
 have S0 : Hid (Wz w1 a w1 g3 gW B #[.int .i64 (X : Int),.int .i64 (Y : Int)] 25 a n c L n) := by
  have b : Below w.heap.size w w1 := by rw [<- Hw1.out]; exact alloc1 w _
  have e3 := Hg3.out
  have lt := hW.out.lt
  refine ⟨hW.out.below b, ?_, fun q hq => ?_, by omega, Nat.le_trans hB.out b.size, Nat.le_refl _, Wfr.refl _ _ _, fun q hq => .inl hq⟩
  . rw [<- Hw1.out, <- Hg3.out]
    exact heap_alloc_new w _
  . have := (hW.out.own.ge q hq).2
    omega
 have F0 : Hid (∀ {w' : World} {a' : Option Addr}, Wfr w1 w' gW a -> New w1 a a' -> Wfr w w' gW a /\ New w a a') := fun {w' a'} h h2 => by
  rw [<- Hw1.out] at h h2
  exact ⟨wfr_alloc h, new_alloc h2⟩
 have q0 := S0.out.c3 0 _ rfl
 go_enter Tryd.func41, Tryd.ntmps41
 go_upto_region 1 with (fail)
 rw [Hw1.out, Hg3.out]
 go_upto_region 2 with (go_at_call 35; refine (Wz.num S0 hX (by omega)).mono ?_; rintro e w2 ⟨a2, n2, c2, rfl, S1⟩)
 clear q0
 have q1 := S1.out.c3 1 _ rfl
 go_wp2_with (go_at_call 35; refine (Wz.num S1 hY (by omega)).mono ?_; rintro e w3 ⟨a3, n3, c3, rfl, S2⟩)
 go_end0
 have h := S2.out
 rw [List.append_assoc] at h
 exact ⟨a3, n3, c3, rfl, h.wri, F0.out h.fr h.nw⟩
section
variable {w1 W W' : World} {a0 : Option Addr} {g3 gW B : Nat} {bx : Array Value} {t3 : TypeId} {a a' : Option Addr} {n c n' c' : Nat} {L L' : List Nat} {m : Nat}
theorem Wz.bal {X Y : Nat} (h : Hid (Wz w1 a0 W g3 gW B bx t3 a n c L m)) (hX : X < 9223372036854775808) (hY : Y < 9223372036854775808) (hm : m <= 10000000) : Calls Tryd.prog 41 #[.pointer (some ⟨gW, 0, none⟩), .agg #[.int .i64 (X : Int),.int .i64 (Y : Int)]] W fun e W' => ∃ a' n' c', e = .returned (.tuple #[]) /\ Hid (Wz w1 a0 W' g3 gW B bx t3 a' n' c' (L ++ (enc X ++ enc Y)) (m + 18)) := by
 have k := h.out
 refine (putBal_n k.wri hX hY k.hB (by have := k.ln; omega)).mono ?_
 rintro e W' ⟨a', n', c', h1, h2⟩
 refine ⟨a', n', c', h1, k.step h2.out.1 h2.out.2.1 h2.out.2.2 ?_⟩
 simp only [List.length_append]
 rw [<- k.wri.own.len]
 have := k.ln
 have := enc_nine hX
 have := enc_nine hY
 omega
end
def okN (b : Bool) : Nat := if b = true then 1 else 0
theorem numberOf_n (b : Bool) (w : World) : Calls Tryd.prog 42 #[.bool b] w fun e w' => e = .returned (.int .i64 (okN b : Int)) /\ w' = w := by
 cases b with
 | false =>
   go_enter Tryd.func42, Tryd.ntmps42
   go_wp2
   go_ret
   exact ⟨rfl, rfl⟩
 | true =>
   go_enter Tryd.func42, Tryd.ntmps42
   go_wp2
   go_ret
   exact ⟨rfl, rfl⟩
structure Nmg where
 K : Nat
 F : Nat
 T : Nat
 t0 : Nat
 t1 : Nat
 t2 : Nat
 b0 : Nat
 b1 : Nat
 a0 : Nat
 a1 : Nat
 B0 : Nat
 B1 : Nat
 B2 : Nat
 ok : Bool
def Nmg.mc (y : Nmg) (la : Option Addr) (ln lc : Nat) (fa : Option Addr) (fn fc : Nat) : Mc := ⟨y.K, y.F, y.T, y.t0, y.t1, y.t2, y.b0, y.b1, y.a0, y.a1, la, ln, lc, y.B0, y.B1, y.B2, y.ok, fa, fn, fc⟩
structure Nlt (y : Nmg) (z : Nat) : Prop where
 K : y.K < z
 F : y.F < z
 T : y.T < z
 t0 : y.t0 < z
 t1 : y.t1 < z
 t2 : y.t2 < z
 b0 : y.b0 < z
 b1 : y.b1 < z
 a0 : y.a0 < z
 a1 : y.a1 < z
 B0 : y.B0 < z
 B1 : y.B1 < z
 B2 : y.B2 < z
def mbL (y : Nmg) (S R : List Nat) : List Nat := enc y.K ++ (enc y.F ++ (enc y.T ++ ((enc y.t0 ++ (enc y.t1 ++ enc y.t2)) ++ ((enc y.b0 ++ enc y.b1) ++ ((enc y.a0 ++ enc y.a1) ++ ((enc y.B0 ++ (enc y.B1 ++ enc y.B2)) ++ (enc (okN y.ok) ++ ((enc S.length ++ S) ++ (enc R.length ++ R)))))))))
theorem sln_lt {w : World} {a : Option Addr} {n : Nat} {l : List Nat} (h : Sln w a n l) : ∀ b off, l ≠ [] -> a = some ⟨b, off, none⟩ -> b < w.heap.size := fun b off hl e => by
 have hn : 0 < n := by rw [h.len]; exact List.length_pos_iff.2 hl
 obtain ⟨b', off', e', hc⟩ := row_at h hn
 rw [e] at e'
 cases e'
 simp only [World.cell?] at hc
 by_cases hlt : b < w.heap.size
 . exact hlt
 . rw [Array.getElem?_eq_none (by omega)] at hc
   cases hc
set_option maxHeartbeats 4000000 in
theorem written_n {w : World} {y : Nmg} {la : Option Addr} {ln lc : Nat} {fa : Option Addr} {fn fc : Nat} {A : Array Value} {sa : Option Addr} {sn sc : Nat} {S R : List Nat} (hA : Hid (A = (encM (y.mc la ln lc fa fn fc)).toArray)) (hy : Nlt y 9223372036854775808) (hS : Hid (Sln w sa sn S)) (hsz : Hid (sa = none -> sc = 0)) (hsn : sn <= 20000000) (hR : Hid (Sln w fa fn R)) (hrz : Hid (fa = none -> fc = 0)) (hrn : fn <= 4096) :
  Calls Tryd.prog 17 #[.agg A,.slice sa sn sc] w fun e w' => ∃ a n c, e = .returned (.tuple #[.slice a n c, .nilIface]) /\ Hid (Own w' w.heap.size a n c (mbL y S R) /\ Below w.heap.size w w' /\ n <= 50000000) := by
 have a16 : A.size = 16 := encM_sz hA.out
 obtain ⟨K, F, T, t0, t1, t2, b0, b1, a0, a1, B0, B1, B2, ok⟩ := y
 obtain ⟨hK, hF, hT, ht0, ht1, ht2, hb0, hb1, ha0, ha1, hB0, hB1, hB2⟩ := hy
 simp only at hK hF hT ht0 ht1 ht2 hb0 hb1 ha0 ha1 hB0 hB1 hB2
 have hok : okN ok < 9223372036854775808 := by unfold okN; split <;> omega
 obtain ⟨g1, Hg1⟩ := nm (w.heap.size)
 obtain ⟨w1, Hw1⟩ := nm (w.alloc (.cells A 29))
 have HB1 := al1 Hw1
 have k1 : Hid (w1.heap[g1]? = some (.cells A 29 (0, 0))) := by rw [<- Hw1.out, <- Hg1.out]; exact heap_alloc_new w _
 obtain ⟨gW, HgW⟩ := nm (w1.heap.size)
 obtain ⟨w2, Hw2⟩ := nm (w1.alloc (.cells #[.slice none 0 0,.bool false] 96))
 have b12 := al1 Hw2
 have GW : Hid (g1 < gW /\ w.heap.size <= gW) := by
  have h := (gl k1.out)
  have h2 := Hg1.out
  rw [HgW.out] at h
  exact ⟨h, by omega⟩
 have BW2 := bt HB1 b12
 have S0 : Hid (Wz w2 none w2 g1 gW w.heap.size A 29 none 0 0 [] 0) := by
  refine ⟨by rw [<- Hw2.out, <- HgW.out]; exact Wri.new w1 _, (b12.out.block g1 (gl k1.out)).trans k1.out, (fun q hq => by cases hq), (by have := GW.out; omega), BW2.out.size, Nat.le_refl _, Wfr.refl _ _ _, (fun q hq => by cases hq)⟩
 have BZ : Hid (∀ {W : World} {a : Option Addr} {n c : Nat} {L : List Nat} {m : Nat}, Wz w2 none W g1 gW w.heap.size A 29 a n c L m -> Below w.heap.size w W) := fun {W a n c L m} h =>
  Wfr.below BW2.out h.fr GW.out.2 (fun q hq => by cases hq) BW2.out.size
 have AP : Hid (∀ {W : World} {a : Option Addr} {n c : Nat} {L : List Nat} {m : Nat} {za : Option Addr} {zn : Nat} {Z : List Nat}, Wz w2 none W g1 gW w.heap.size A 29 a n c L m -> Sln w za zn Z -> ∀ b off, Z ≠ [] -> za = some ⟨b, off, none⟩ -> b ≠ gW /\ some b ≠ blkOf a) := fun {W a n c L m za zn Z} h hZ b off hz e => by
  have h1 := sln_lt hZ b off hz e
  have h2 := GW.out.2
  refine ⟨by omega, fun e2 => ?_⟩
  have h3 := (h.wri.own.ge b e2.symm).1
  omega
 go_enter Tryd.func17, Tryd.ntmps17
 go_upto_region 1 with (fail)
 rw [Hw1.out, Hg1.out]
 go_upto_region 2 with (go_at_call 39; refine (newWriter_n _).mono ?_; rintro e w0 ⟨rfl, h0⟩; rw [h0.out, Hw2.out, HgW.out]; clear h0)
 clear Hw1 Hg1 Hw2 HgW k1 b12 HB1
 have q0 := S0.out.c3 0 (.int .i64 (K : Int)) (by rw [hA.out]; rfl)
 go_upto_region 3 with (go_at_call 35; refine (Wz.num S0 hK (by omega)).mono ?_; rintro e w3 ⟨a3_, n3_, c3_, rfl, S1⟩)
 clear q0
 have q1 := S1.out.c3 1 (.int .i64 (F : Int)) (by rw [hA.out]; rfl)
 go_upto_region 4 with (go_at_call 35; refine (Wz.num S1 hF (by omega)).mono ?_; rintro e w4 ⟨a4_, n4_, c4_, rfl, S2⟩)
 clear q1
 have q2 := S2.out.c3 2 (.int .i64 (T : Int)) (by rw [hA.out]; rfl)
 go_upto_region 5 with (go_at_call 35; refine (Wz.num S2 hT (by omega)).mono ?_; rintro e w5 ⟨a5_, n5_, c5_, rfl, S3⟩)
 clear q2
 have q3 := S3.out.c3 3 (.int .i64 (t0 : Int)) (by rw [hA.out]; rfl)
 have q4 := S3.out.c3 4 (.int .i64 (t1 : Int)) (by rw [hA.out]; rfl)
 have q5 := S3.out.c3 5 (.int .i64 (t2 : Int)) (by rw [hA.out]; rfl)
 go_upto_region 6 with (go_at_call 40; refine (Wz.id S3 ht0 ht1 ht2 (by omega)).mono ?_; rintro e w6 ⟨a6_, n6_, c6_, rfl, S4⟩)
 clear q3 q4 q5
 have q6 := S4.out.c3 6 (.int .i64 (b0 : Int)) (by rw [hA.out]; rfl)
 have q7 := S4.out.c3 7 (.int .i64 (b1 : Int)) (by rw [hA.out]; rfl)
 go_upto_region 7 with (go_at_call 41; refine (Wz.bal S4 hb0 hb1 (by omega)).mono ?_; rintro e w7 ⟨a7_, n7_, c7_, rfl, S5⟩)
 clear q6 q7
 have q8 := S5.out.c3 8 (.int .i64 (a0 : Int)) (by rw [hA.out]; rfl)
 have q9 := S5.out.c3 9 (.int .i64 (a1 : Int)) (by rw [hA.out]; rfl)
 go_upto_region 8 with (go_at_call 41; refine (Wz.bal S5 ha0 ha1 (by omega)).mono ?_; rintro e w8 ⟨a8_, n8_, c8_, rfl, S6⟩)
 clear q8 q9
 have q11 := S6.out.c3 11 (.int .i64 (B0 : Int)) (by rw [hA.out]; rfl)
 have q12 := S6.out.c3 12 (.int .i64 (B1 : Int)) (by rw [hA.out]; rfl)
 have q13 := S6.out.c3 13 (.int .i64 (B2 : Int)) (by rw [hA.out]; rfl)
 go_upto_region 9 with (go_at_call 40; refine (Wz.id S6 hB0 hB1 hB2 (by omega)).mono ?_; rintro e w9 ⟨a9_, n9_, c9_, rfl, S7⟩)
 clear q11 q12 q13
 have q14 := S7.out.c3 14 (.bool ok) (by rw [hA.out]; rfl)
 go_upto_region 10 with first
  | (go_at_call 42; refine (numberOf_n ok _).mono ?_; rintro e w0 ⟨rfl, h0⟩; rw [h0]; clear h0)
  | (go_at_call 35; refine (Wz.num S7 hok (by omega)).mono ?_; rintro e w10 ⟨a10_, n10_, c10_, rfl, S8⟩)
 clear q14
 have SS : Hid (Sln w10 sa sn S) := hS.out.below (BZ.out S8.out)
 have AS : Hid (∀ b off, S ≠ [] -> sa = some ⟨b, off, none⟩ -> b ≠ gW /\ some b ≠ blkOf a10_) := AP.out S8.out hS.out
 go_upto_region 11 with (go_at_call 37; refine (Wz.bytes S8 SS hsz AS hsn (by omega)).mono ?_; rintro e w11 ⟨a11_, n11_, c11_, rfl, S9⟩)
 clear SS AS
 have q15 := S9.out.c3 15 (.slice fa fn fc) (by rw [hA.out]; rfl)
 have SR : Hid (Sln w11 fa fn R) := hR.out.below (BZ.out S9.out)
 have AR : Hid (∀ b off, R ≠ [] -> fa = some ⟨b, off, none⟩ -> b ≠ gW /\ some b ≠ blkOf a11_) := AP.out S9.out hR.out
 go_upto_region 12 with (go_at_call 37; refine (Wz.bytes S9 SR hrz AR (by omega) (by omega)).mono ?_; rintro e w12 ⟨a12_, n12_, c12_, rfl, S10⟩)
 clear SR AR q15
 have NB : Hid (n12_ <= 140737488352256) := by have := S10.out.ln; show _ <= _; omega
 go_wp2_with (go_at_call 38; refine (done_n (show Hid (Wri w12 gW w.heap.size a12_ n12_ c12_ _ false) from S10.out.wri) NB).mono ?_; rintro e w20 ⟨a20, c20, rfl, h20⟩)
 go_ret2
 have BB := BZ.out S10.out
 refine ⟨a20, n12_, c20, rfl, ?_, BB.trans (h20.out.2.mono BB.size), by have := S10.out.ln; omega⟩
 have h := h20.out.1.le BB.size
 rw [hS.out.len, hR.out.len] at h
 simp only [List.nil_append, List.append_assoc] at h
 simp only [mbL, List.append_assoc]
 exact h
end Go.Proofs.YtppibcambhmomaaDoor
