import Derived.Test.YtppibcambhmomaaDoorPp
import Derived.Test.YtppibcambhmomaaDoorP32
import Derived.Test.YtppibcambhmomaaDoorP11
import Derived.Test.YtppibcambhmomaaDoorP12
namespace Go.Proofs.YtppibcambhmomaaDoor
open Go.ChangeShapes Go.WideShapes Go.ChangeAt Go.RowKit
set_option maxRecDepth 20000
set_option linter.unusedVariables false
set_option linter.unusedSimpArgs false
def refu (l : List Nat) (k : Nat) : Prop := ((opn l).2 = 0 /\ rdW (opn l).1 = none /\ k = 5) ∨ ((opn l).2 = k /\ (k = 5 ∨ k = 6))
theorem opn_len (l : List Nat) : (opn l).1.length <= l.length := by
 unfold opn
 split
 . exact Nat.zero_le _
 . split
   . simp only [List.length_take]; omega
   . exact Nat.zero_le _
section
variable {w : World} {a : Option Addr} {n c : Nat} {l : List Nat} {M : Nat -> Prop} {E : Nat -> Addr} {k : Nat}
set_option maxHeartbeats 2000000 in
theorem readA_no (hS : Hid (Sln w a n l)) (hc : Hid (a = none -> c = 0)) (hnc : n <= c) (hE : Hid (Sent w M E)) (hM1 : M 1) (hM7 : M 3) (hk : Hid (refu l k)) :
  Calls Tryd.prog 75 #[.slice a n c] w fun e w' => ∃ v, e = .returned (.tuple #[.slice none 0 0, v]) /\ Hid (v = erv E k /\ Below w.heap.size w w') := by
 rcases hk.out with ⟨ho, hr, rfl⟩ | ⟨ho, hk2⟩
 . have HO : Hid ((opn l).2 = 0) := ho
   have HR : Hid (rdW (opn l).1 = none) := hr
   clear ho hr
   go_enter Tryd.func75, Tryd.ntmps75
   go_upto_region 2 with (go_at_call 23; refine (open_any hS hc hnc hE hM7 hM1).mono ?_; rintro e w2 ⟨a2, n2, c2, v, rfl, H2⟩)
   obtain ⟨rfl, hO, hB⟩ : v = .nilIface /\ Own w2 w.heap.size a2 n2 c2 (opn l).1 /\ Below w.heap.size w w2 := by
    have h := H2.out
    rw [HO.out] at h
    exact ⟨h.1, h.2.1, h.2.2⟩
   have O2 := show Hid (Own w2 w.heap.size a2 n2 c2 (opn l).1) from hO
   have B2 := show Hid (Below w.heap.size w w2) from hB
   clear hO hB H2
   have LN : Hid (n2 <= 140737488352256) := by
    have h1 := O2.out.len
    have h2 := opn_len l
    have h3 := hS.out.sli.2.1
    show _ <= _
    omega
   have S2 : Hid (Sln w2 a2 n2 (opn l).1) := O2.out.sln LN.out
   have Z2 : Hid (a2 = none -> c2 = 0) := O2.out.cap0
   have E2 : Hid (Sent w2 M E) := hE.out.below B2.out
   have CW : Hid (Calls Tryd.prog 86 #[.slice a2 n2 c2, .func (.func 87) #[] #[]] w2 fun e w' => e = .returned (.tuple #[.slice none 0 0, .iface 142 (.pointer (some (E 1)))]) /\ Hid (Below w2.heap.size w2 w')) := by
    refine (whole52_n S2 Z2 E2 hM1).mono ?_
    rintro e w' (⟨h, h1, h2⟩ | ⟨zs, la, ln, lc, h, h1, h2, h3⟩)
    . exact ⟨h1, h2⟩
    . rw [HR.out] at h; cases h
   go_wp2_with (go_at_call 86; refine CW.out.mono ?_; rintro e w3 ⟨rfl, H3⟩)
   go_ret2
   exact ⟨_, rfl, rfl, B2.out.trans (H3.out.mono B2.out.size)⟩
 . have HO : Hid ((opn l).2 = k) := ho
   clear ho
   have HV : Hid (∃ p, erv E k = .iface 142 (.pointer (some p))) := by
    rcases hk2 with rfl | rfl
    . exact ⟨E 1, rfl⟩
    . exact ⟨E 3, rfl⟩
   clear hk2
   obtain ⟨p, hp⟩ := HV.out
   have HP : Hid (erv E k = .iface 142 (.pointer (some p))) := hp
   clear hp
   go_enter Tryd.func75, Tryd.ntmps75
   go_wp2_with (go_at_call 23; refine (open_any hS hc hnc hE hM7 hM1).mono ?_; rintro e w2 ⟨a2, n2, c2, v, rfl, H2⟩; obtain rfl : v = .iface 142 (.pointer (some p)) := H2.out.1.trans (by rw [HO.out]; exact HP.out))
   go_ret2
   exact ⟨_, rfl, HP.out.symm, H2.out.2.2⟩
end
theorem opn_err (l : List Nat) : (opn l).2 = 0 ∨ (opn l).2 = 5 ∨ (opn l).2 = 6 := by
 unfold opn
 split
 . exact .inr (.inl rfl)
 . split
   . exact .inl rfl
   . exact .inr (.inr rfl)
theorem readA_any {w : World} {a : Option Addr} {n c : Nat} {l : List Nat} {M : Nat -> Prop} {E : Nat -> Addr} (hS : Hid (Sln w a n l)) (hc : Hid (a = none -> c = 0)) (hnc : n <= c) (hE : Hid (Sent w M E)) (hM1 : M 1) (hM3 : M 3) :
  Calls Tryd.prog 75 #[.slice a n c] w fun e w' => ∃ la ln lc v, e = .returned (.tuple #[.slice la ln lc, v]) /\ Hid (Below w.heap.size w w' /\ ∃ Y ys, led Y = ys.map Nm.cm /\ Oc w' w.heap.size la ln lc Y /\ ((rdA l = some ys /\ v = .nilIface) ∨ (rdA l = none /\ ∃ x, v = er x))) := by
 by_cases h : (opn l).2 = 0 /\ rdW (opn l).1 ≠ none
 . obtain ⟨h0, h1⟩ := h
   obtain ⟨ys, h1⟩ := Option.ne_none_iff_exists'.1 h1
   refine (readA_yes hS hc hnc hE hM1 hM3 h0 h1).mono ?_
   rintro e w' ⟨la, ln, lc, rfl, H⟩
   obtain ⟨hb, Y, hy, ho⟩ := H.out
   exact ⟨la, ln, lc, _, rfl, hb, Y, ys, hy, ho, .inl ⟨by unfold rdA; rw [if_pos h0, h1], rfl⟩⟩
 . have h2 : rdA l = none := by
    unfold rdA
    split
    . rename_i h0
      exact Classical.byContradiction fun h1 => h ⟨h0, h1⟩
    . rfl
   have hk : ∃ k, refu l k /\ (k = 5 ∨ k = 6) := by
    rcases opn_err l with h0 | h0 | h0
    . refine ⟨5, .inl ⟨h0, ?_, rfl⟩, .inl rfl⟩
      unfold rdA at h2
      rw [if_pos h0] at h2
      exact h2
    . exact ⟨5, .inr ⟨h0, .inl rfl⟩, .inl rfl⟩
    . exact ⟨6, .inr ⟨h0, .inr rfl⟩, .inr rfl⟩
   obtain ⟨k, hk, hk2⟩ := hk
   refine (readA_no hS hc hnc hE hM1 hM3 hk).mono ?_
   rintro e w' ⟨v, rfl, H⟩
   refine ⟨none, 0, 0, v, rfl, H.out.2, [], [], rfl, ⟨World.ownsRow_nil w' w.heap.size 60 18, by omega, (fun x hx => by cases hx), (fun x hx => by cases hx)⟩, .inr ⟨h2, ?_⟩⟩
   rw [H.out.1]
   rcases hk2 with rfl | rfl
   . exact ⟨E 1, rfl⟩
   . exact ⟨E 3, rfl⟩
def nilB (v : Value) : Bool := match v with
 | .nilIface => true
 | _ => false
structure Rf (w w' : World) (g gR : Nat) : Prop where
 os : w'.os = w.os
 tape : w'.tape = w.tape
 output : w'.output = w.output
 size : w.heap.size <= w'.heap.size
 block : ∀ k, k < w.heap.size -> k ≠ g -> k ≠ gR -> w'.heap[k]? = w.heap[k]?
theorem Rf.trans {w w1 w2 : World} {g gR : Nat} (h : Rf w w1 g gR) (h1 : Rf w1 w2 g gR) : Rf w w2 g gR :=
 ⟨h1.os.trans h.os, h1.tape.trans h.tape, h1.output.trans h.output, Nat.le_trans h.size h1.size, fun k hk h2 h3 => (h1.block k (Nat.lt_of_lt_of_le hk h.size) h2 h3).trans (h.block k hk h2 h3)⟩
theorem Rf.of_below {w w' : World} {g gR : Nat} (hb : Below w.heap.size w w') : Rf w w' g gR := ⟨hb.os, hb.tape, hb.output, hb.size, fun k hk _ _ => hb.block k hk⟩
theorem Rf.of_wfr {w w' : World} {g gR : Nat} (h : Wfr w w' g none) : Rf w w' g gR := ⟨h.os, h.tape, h.output, h.size, fun k hk h1 _ => h.block k hk h1 (by simp [blkOf])⟩
theorem Rf.set {w w' : World} {g gR : Nat} (h : Rf w w' g gR) (i : Nat) (v : Value) : Rf w (w'.setCell ⟨gR, i, none⟩ v) g gR :=
 ⟨h.os, h.tape, h.output, by simp [World.setCell]; exact h.size, fun k hk h1 h2 => (Below.heap_setCell _ _ _ _ h2).trans (h.block k hk h1 h2)⟩
theorem Rf.below {w0 w w' : World} {B g gR : Nat} (hb : Below B w0 w) (h : Rf w w' g gR) (hg : B <= g) (hR : B <= gR) (hB : B <= w.heap.size) : Below B w0 w' :=
 hb.trans ⟨h.os, h.tape, h.output, h.size, fun k hk => h.block k (by omega) (by omega) (by omega)⟩
structure Rm (W : World) (g gR B : Nat) (a : Option Addr) (n c : Nat) (l : List Nat) (o : Option Nat) : Prop where
 ex : ∃ p b, Rdr W g B a n c l p /\ W.heap[gR]? = some (.cells #[.pointer (some ⟨g, 0, none⟩),.bool b] 91 (0, 0)) /\ (b = false -> o = some p) /\ (b = true -> o = none)
 ne : gR ≠ g
 ap : blkOf a ≠ some gR
theorem Rm.below {W W' : World} {g gR B : Nat} {a : Option Addr} {n c : Nat} {l : List Nat} {o : Option Nat} (h : Rm W g gR B a n c l o) (hb : Below W.heap.size W W') : Rm W' g gR B a n c l o := by
 obtain ⟨⟨p, b, h1, h2, h3, h4⟩, ne, ap⟩ := h
 exact ⟨⟨p, b, h1.below hb, (hb.block gR (gl h2)).trans h2, h3, h4⟩, ne, ap⟩
theorem Rm.set {W : World} {g gR B k i : Nat} {v : Value} {a : Option Addr} {n c : Nat} {l : List Nat} {o : Option Nat} (h : Rm W g gR B a n c l o) (h1 : k ≠ g) (h2 : k ≠ gR) (h3 : blkOf a ≠ some k) : Rm (W.setCell ⟨k, i, none⟩ v) g gR B a n c l o := by
 obtain ⟨⟨p, b, k1, k2, k3, k4⟩, ne, ap⟩ := h
 exact ⟨⟨p, b, rdr_set k1 h1 h3 i v, (heap_setCell_other W ⟨k, i, none⟩ gR v (by show gR ≠ k; omega)).trans k2, k3, k4⟩, ne, ap⟩
theorem Rm.lt {W : World} {g gR B : Nat} {a : Option Addr} {n c : Nat} {l : List Nat} {o : Option Nat} (h : Rm W g gR B a n c l o) : gR < W.heap.size /\ g < W.heap.size := by
 obtain ⟨⟨p, b, h1, h2, _⟩, _⟩ := h
 exact ⟨(gl h2), h1.lt⟩
theorem note_nil {w : World} {g gR : Nat} {b : Bool} (hk : Hid (w.heap[gR]? = some (.cells #[.pointer (some ⟨g, 0, none⟩),.bool b] 91 (0, 0)))) : Calls Tryd.prog 74 #[.pointer (some ⟨gR, 0, none⟩), .nilIface] w fun e w' => e = .returned (.tuple #[]) /\ Hid (w' = w.setCell ⟨gR, 1, none⟩ (.bool b)) := by
 have c1 : w.cell? ⟨gR, 1, none⟩ = some (.bool b) := by simp [World.cell?, hk.out]
 have f1 := fz hk.out 1
 cases b with
 | false =>
   go_enter Tryd.func74, Tryd.ntmps74
   go_wp2
   go_end0
   exact ⟨rfl, rfl⟩
 | true =>
   go_enter Tryd.func74, Tryd.ntmps74
   go_wp2
   go_end0
   exact ⟨rfl, rfl⟩
theorem note_er {w : World} {g gR : Nat} {b : Bool} {x : Addr} (hk : Hid (w.heap[gR]? = some (.cells #[.pointer (some ⟨g, 0, none⟩),.bool b] 91 (0, 0)))) : Calls Tryd.prog 74 #[.pointer (some ⟨gR, 0, none⟩), er x] w fun e w' => e = .returned (.tuple #[]) /\ Hid (w' = w.setCell ⟨gR, 1, none⟩ (.bool true)) := by
 have c1 : w.cell? ⟨gR, 1, none⟩ = some (.bool b) := by simp [World.cell?, hk.out]
 have f1 := fz hk.out 1
 cases b with
 | false =>
   go_enter Tryd.func74, Tryd.ntmps74
   go_wp2
   go_end0
   exact ⟨rfl, rfl⟩
 | true =>
   go_enter Tryd.func74, Tryd.ntmps74
   go_wp2
   go_end0
   exact ⟨rfl, rfl⟩
section
variable {w : World} {g gR B : Nat} {M : Nat -> Prop} {E : Nat -> Addr} {a : Option Addr} {n c : Nat} {l : List Nat} {o : Option Nat}
theorem note_rm {v : Value} {p : Nat} {b : Bool} (hR : Rdr w g B a n c l p) (hk : w.heap[gR]? = some (.cells #[.pointer (some ⟨g, 0, none⟩),.bool b] 91 (0, 0))) (ne : gR ≠ g) (ap : blkOf a ≠ some gR) (hv : v = .nilIface ∨ ∃ x, v = er x) :
  Calls Tryd.prog 74 #[.pointer (some ⟨gR, 0, none⟩), v] w fun e w' => e = .returned (.tuple #[]) /\ Hid (Rf w w' g gR /\ Rdr w' g B a n c l p /\ w'.heap[gR]? = some (.cells #[.pointer (some ⟨g, 0, none⟩),.bool (if nilB v = true then b else true)] 91 (0, 0)) /\ w' = w.setCell ⟨gR, 1, none⟩ (.bool (if nilB v = true then b else true))) := by
 have fin : ∀ b', Rf w (w.setCell ⟨gR, 1, none⟩ (.bool b')) g gR /\ Rdr (w.setCell ⟨gR, 1, none⟩ (.bool b')) g B a n c l p /\ (w.setCell ⟨gR, 1, none⟩ (.bool b')).heap[gR]? = some (.cells #[.pointer (some ⟨g, 0, none⟩),.bool b'] 91 (0, 0)) := fun b' =>
  ⟨(Rf.of_below (Below.refl _ _)).set 1 _, rdr_set hR ne ap 1 _, by rw [set_blk hk]; rfl⟩
 rcases hv with rfl | ⟨x, rfl⟩
 . refine (note_nil hk).mono ?_
   rintro e w' ⟨rfl, h⟩
   rw [h.out, if_pos (show nilB .nilIface = true from rfl)]
   exact ⟨rfl, (fin b).1, (fin b).2.1, (fin b).2.2, rfl⟩
 . refine (note_er hk).mono ?_
   rintro e w' ⟨rfl, h⟩
   rw [h.out, if_neg (show ¬ nilB (er x) = true by intro h; cases h)]
   exact ⟨rfl, (fin true).1, (fin true).2.1, (fin true).2.2, rfl⟩
theorem rn_lt {p N q : Nat} {z : Int} (hz : z <= 9223372036854775807) {e : Nat} (h : rdN l p z = (N, e, q)) : N < 9223372036854775808 := by
 unfold rdN at h
 split at h
 . rename_i hc
   simp only [Prod.mk.injEq] at h
   omega
 . simp only [Prod.mk.injEq] at h
   omega
set_option maxHeartbeats 2000000 in
theorem num_rm {z : Int} (h : Hid (Rm w g gR B a n c l o)) (hz : z <= 9223372036854775807) (hE : Hid (Sent w M E)) (hM : M 1) :
  Calls Tryd.prog 63 #[.pointer (some ⟨gR, 0, none⟩),.int .i64 z] w fun e w' => ∃ (N : Nat) (o' : Option Nat), e = .returned (.int .i64 (N : Int)) /\ Hid (Rm w' g gR B a n c l o' /\ Rf w w' g gR /\ o.bind (fun p => rn l p z) = o'.map (fun q => (N, q)) /\ N < 9223372036854775808) := by
 obtain ⟨⟨p, b, hR, hk, s1, s2⟩, ne, ap⟩ := h.out
 have HR : Hid (Rdr w g B a n c l p) := hR
 have HS : Hid ((b = false -> o = some p) /\ (b = true -> o = none)) := ⟨s1, s2⟩
 have HK : Hid (w.heap[gR]? = some (.cells #[.pointer (some ⟨g, 0, none⟩),.bool b] 91 (0, 0)) /\ gR ≠ g /\ blkOf a ≠ some gR) := ⟨hk, ne, ap⟩
 have c0 : w.cell? ⟨gR, 0, none⟩ = some (.pointer (some ⟨g, 0, none⟩)) := by simp [World.cell?, hk]
 clear hR hk s1 s2 ne ap h
 obtain ⟨N, k, q, hq⟩ : ∃ N k q, Hid (rdN l p z = (N, k, q)) := ⟨_, _, _, rfl⟩
 have LT := rn_lt hz hq.out
 have HN : Hid (N < 9223372036854775808) := LT
 clear LT
 have HC : Hid ((k = 0 /\ rn l p z = some (N, q)) ∨ (k = 5 /\ rn l p z = none)) := by
  rcases rn_cases l p z with ⟨N', q', h1, h2⟩ | ⟨h1, N', q', h2⟩
  . rw [hq.out] at h2
    simp only [Prod.mk.injEq] at h2
    obtain ⟨rfl, rfl, rfl⟩ := h2
    exact .inl ⟨rfl, h1⟩
  . rw [hq.out] at h2
    simp only [Prod.mk.injEq] at h2
    obtain ⟨rfl, rfl, rfl⟩ := h2
    exact .inr ⟨rfl, h1⟩
 go_enter Tryd.func63, Tryd.ntmps63
 go_upto_region 2 with (go_at_call 73; refine (rnum_any HR hz hE hM).mono ?_; rintro e w2 ⟨N2, v, rfl, H2⟩)
 have H3 : Hid (N2 = N /\ v = erv E k /\ Rdr w2 g B a n c l q /\ Wfr w w2 g none) := by
  have h := H2.out
  rw [hq.out] at h
  exact h
 clear H2
 obtain rfl := H3.out.1
 have K2 : Hid (w2.heap[gR]? = some (.cells #[.pointer (some ⟨g, 0, none⟩),.bool b] 91 (0, 0))) := box_wfr HK.out.1 HK.out.2.1 H3.out.2.2.2
 have HV : Hid (v = .nilIface ∨ ∃ x, v = er x) := by
  rw [H3.out.2.1]
  rcases HC.out with ⟨rfl, _⟩ | ⟨rfl, _⟩
  . exact .inl rfl
  . exact .inr ⟨E 1, rfl⟩
 go_wp2_with (go_at_call 74; refine (note_rm H3.out.2.2.1 K2.out HK.out.2.1 HK.out.2.2 HV.out).mono ?_; rintro e w3 ⟨rfl, H4⟩)
 go_ret
 refine ⟨N2, if nilB v = true then o.map (fun _ => q) else none, rfl, ?_⟩
 have F := (Rf.of_wfr (gR := gR) H3.out.2.2.2).trans H4.out.1
 have h5 := H4.out.2
 have e0 : k = 0 -> nilB v = true := fun h => by rw [H3.out.2.1, h]; rfl
 have e5 : k = 5 -> ¬ nilB v = true := fun h h2 => by rw [H3.out.2.1, h] at h2; cases h2
 refine ⟨⟨⟨q, _, h5.1, h5.2.1, ?_, ?_⟩, HK.out.2.1, HK.out.2.2⟩, F, ?_, HN.out⟩
 . intro h
   by_cases hv : nilB v = true
   . rw [if_pos hv] at h ⊢
     rw [HS.out.1 h]
     rfl
   . rw [if_neg hv] at h
     cases h
 . intro h
   by_cases hv : nilB v = true
   . rw [if_pos hv] at h ⊢
     rw [HS.out.2 h]
     rfl
   . rw [if_neg hv]
 . rcases HC.out with ⟨h0, h1⟩ | ⟨h0, h1⟩
   . rw [if_pos (e0 h0)]
     cases b with
     | false => rw [HS.out.1 rfl]; simp [h1]
     | true => rw [HS.out.2 rfl]; rfl
   . rw [if_neg (e5 h0)]
     cases b with
     | false => rw [HS.out.1 rfl]; simp [h1]
     | true => rw [HS.out.2 rfl]; rfl
def lft (l : List Nat) (p : Nat) : Option (List Nat × Nat) := rt l p ((l.length - p : Nat) : Int)
set_option maxHeartbeats 4000000 in
theorem bytes_rm (h : Hid (Rm w g gR B a n c l o)) (hE : Hid (Sent w M E)) (hM : M 1) :
  Calls Tryd.prog 67 #[.pointer (some ⟨gR, 0, none⟩)] w fun e w' => ∃ (a' : Option Addr) (m c' : Nat) (L : List Nat) (o' : Option Nat), e = .returned (.slice a' m c') /\ Hid (Own w' w.heap.size a' m c' L /\ Rm w' g gR B a n c l o' /\ Rf w w' g gR /\ o.bind (lft l) = o'.map (fun q => (L, q)) /\ L.length <= l.length) := by
 obtain ⟨⟨p, b, hR, hk, s1, s2⟩, ne, ap⟩ := h.out
 have HS : Hid ((b = false -> o = some p) /\ (b = true -> o = none)) := ⟨s1, s2⟩
 obtain ⟨z, Hz⟩ := nm (n - p)
 have zl : (z : Int) <= 9223372036854775807 := by have := Hz.out; have := hR.sz; omega
 obtain ⟨wd, Hwd⟩ := nm (w.drew)
 have bd : Hid (Below w.heap.size w wd) := by rw [<- Hwd.out]; exact below_drewN (Below.refl _ _) 1
 have HR : Hid (Rdr wd g B a n c l p) := hR.below bd.out
 have HK : Hid (wd.heap[gR]? = some (.cells #[.pointer (some ⟨g, 0, none⟩),.bool b] 91 (0, 0)) /\ gR ≠ g /\ blkOf a ≠ some gR) := ⟨(bd.out.block gR (gl hk)).trans hk, ne, ap⟩
 have HE : Hid (Sent wd M E) := hE.out.below bd.out
 have NL : Hid (n = l.length) := hR.own.len
 have c0 : wd.cell? ⟨gR, 0, none⟩ = some (.pointer (some ⟨g, 0, none⟩)) := by simp [World.cell?, HK.out.1]
 clear hR hk s1 s2 ne ap h
 go_enter Tryd.func67, Tryd.ntmps67
 go_upto_region 1 with (fail)
 refine wp_region_seq (C := fun W => W.cell? ⟨gR, 0, none⟩ = some (.pointer (some ⟨g, 0, none⟩))) [(0, false), (1, false), (2, false), (3, false), (4, false), (5, false), (6, false), (7, false), (8, true), (9, true), (10, false), (11, false), (12, false), (13, false), (14, false)] (by kernel_rfl) (by kernel_rfl) (by rw [Hwd.out]; exact c0) ?_
 rw [Hwd.out]
 refine stk (o := ⟨some 6, .move (.tmp 0), 87, "bytes.go:97", #[], none⟩) (v := .pointer (some ⟨gR, 0, none⟩)) ?_
 simp only [pG,Act.put]
 refine stk (o := ⟨some 7, .nilCheck (.tmp 6), 0, "bytes.go:97", #[⟨0, .data⟩], none⟩) (v := .pointer (some ⟨gR, 0, none⟩)) ?_
 simp only [pG,Act.put]
 refine stk (o := ⟨some 8, .fieldAddr 91 (.tmp 7) 0, 0, "bytes.go:97", #[⟨1, .data⟩], none⟩) (v := .pointer (some ⟨gR, 0, none⟩)) ?_
 simp only [pG,Act.put]
 refine sty (o := ⟨some 9, .load 88 (.tmp 8), 88, "bytes.go:97", #[⟨2, .data⟩], none⟩) (v := .pointer (some ⟨g, 0, none⟩)) (Or.inl ⟨by kernel_rfl, fun W hW => by have q0 := hW; go_simp⟩) ?_
 simp only [pG,Act.put]
 refine stk (o := ⟨some 10, .move (.tmp 0), 87, "bytes.go:97", #[], none⟩) (v := .pointer (some ⟨gR, 0, none⟩)) ?_
 simp only [pG,Act.put]
 refine stk (o := ⟨some 11, .nilCheck (.tmp 10), 0, "bytes.go:97", #[⟨4, .data⟩], none⟩) (v := .pointer (some ⟨gR, 0, none⟩)) ?_
 simp only [pG,Act.put]
 refine stk (o := ⟨some 12, .fieldAddr 91 (.tmp 11) 0, 0, "bytes.go:97", #[⟨5, .data⟩], none⟩) (v := .pointer (some ⟨gR, 0, none⟩)) ?_
 simp only [pG,Act.put]
 refine sty (o := ⟨some 13, .load 88 (.tmp 12), 88, "bytes.go:97", #[⟨6, .data⟩], none⟩) (v := .pointer (some ⟨g, 0, none⟩)) (Or.inl ⟨by kernel_rfl, fun W hW => by have q0 := hW; go_simp⟩) ?_
 simp only [pG,Act.put]
 refine seq_call (o := ⟨some 14, .call { callee := .value (.func 68), args := #[.tmp 13], argTypes := #[88] }, 3, "bytes.go:97", #[⟨7, .data⟩], none⟩) (by kernel_rfl) (fun KK hK => ?_)
 rw [if_pos (by kernel_rfl)]
 go_simp
 go_wp2_with (go_at_call 68; refine (lft_n HR).mono ?_; rintro e v2 ⟨rfl, h2⟩; rw [Hz.out])
 have b2 : Hid (Below wd.heap.size wd v2) := by obtain ⟨j, hj⟩ := h2.out; rw [hj]; exact below_drewN (Below.refl _ _) j
 have R2 : Hid (Rdr v2 g B a n c l p) := HR.out.below b2.out
 have K2 : Hid (v2.heap[gR]? = some (.cells #[.pointer (some ⟨g, 0, none⟩),.bool b] 91 (0, 0))) := (b2.out.block gR (gl HK.out.1)).trans HK.out.1
 have E2 : Hid (Sent v2 M E) := HE.out.below (b2.out.mono (Nat.le_refl _))
 clear h2
 refine hK.out _ _ (by simp [World.cell?, K2.out]) ?_
 clear hK KK
 try simp only [pG,Act.put]
 refine seq_call (o := ⟨some 15, .call { callee := .value (.func 76), args := #[.tmp 9, .tmp 14], argTypes := #[88, 3] }, 35, "bytes.go:97", #[⟨3, .data⟩, ⟨8, .data⟩, ⟨8, .chain⟩], none⟩) (by kernel_rfl) (fun KK hK => ?_)
 rw [if_pos (by kernel_rfl)]
 go_simp
 go_wp2_with (go_at_call 76; refine (rbytes_any (z := (z : Int)) R2 zl E2 hM).mono ?_; rintro e v3 ⟨ab, mb, cb, v, rfl, H3⟩)
 have C3 : v3.cell? ⟨gR, 0, none⟩ = some (.pointer (some ⟨g, 0, none⟩)) := by
  have h := box_wfr K2.out HK.out.2.1 H3.out.2.2.2
  simp [World.cell?, h]
 refine hK.out _ _ (C3) ?_
 clear hK KK
 try simp only [pG,Act.put]
 refine stk (o := ⟨some 5, .move (.tmp 15), 35, "bytes.go:97", #[⟨9, .data⟩], none⟩) (v := .tuple #[.slice ab mb cb, v]) ?_
 simp only [pG,Act.put]
 refine stk (o := ⟨some 16, .extract (.tmp 5) 0, 27, "bytes.go:97", #[⟨10, .data⟩], none⟩) (v := .slice ab mb cb) ?_
 simp only [pG,Act.put]
 refine stk (o := ⟨some 17, .extract (.tmp 5) 1, 33, "bytes.go:97", #[⟨10, .data⟩, { on := 13, ground := .gcOnly Go.Departure.lateStores }], none⟩) (v := v) ?_
 simp only [pG,Act.put]
 refine stk (o := ⟨some 3, .assign (.tmp 16), 27, "bytes.go:97", #[⟨11, .data⟩, ⟨9, .chain⟩, ⟨0, .phase⟩, ⟨1, .phase⟩, ⟨2, .phase⟩, ⟨3, .phase⟩, ⟨4, .phase⟩, ⟨5, .phase⟩, ⟨6, .phase⟩, ⟨7, .phase⟩, ⟨8, .phase⟩, ⟨9, .phase⟩, ⟨10, .phase⟩, ⟨11, .phase⟩, { on := 12, ground := .textOnly Go.Departure.lateStores }], none⟩) (v := .slice ab mb cb) ?_
 simp only [pG,Act.put]
 refine stk (o := ⟨some 4, .assign (.tmp 17), 33, "bytes.go:97", #[⟨12, .data⟩, ⟨13, .chain⟩, ⟨0, .phase⟩, ⟨1, .phase⟩, ⟨2, .phase⟩, ⟨3, .phase⟩, ⟨4, .phase⟩, ⟨5, .phase⟩, ⟨6, .phase⟩, ⟨7, .phase⟩, ⟨8, .phase⟩, ⟨9, .phase⟩, ⟨10, .phase⟩, ⟨11, .phase⟩, ⟨12, .phase⟩, ⟨13, .phase⟩], none⟩) (v := v) ?_
 simp only [pG,Act.put]
 show (Exit.then _ _) .normal _ _

 obtain ⟨L, k, q, hq⟩ : ∃ L k q, Hid (rdB l p (z : Int) = (L, k, q)) := ⟨_, _, _, rfl⟩
 have H4 : Hid (Own v3 v2.heap.size ab mb cb L /\ v = erv E k /\ Rdr v3 g B a n c l q /\ Wfr v2 v3 g none) := by
  have h := H3.out
  rw [hq.out] at h
  exact h
 clear H3
 have HC : Hid ((k = 0 /\ lft l p = some (L, q)) ∨ (k = 5 /\ lft l p = none)) := by
  have hz : ((l.length - p : Nat) : Int) = (z : Int) := by rw [<- NL.out, Hz.out]
  show (k = 0 /\ rt l p _ = _) ∨ (k = 5 /\ rt l p _ = _)
  rw [hz]
  rcases rt_cases l p (z : Int) with ⟨N', q', h1, h2⟩ | ⟨h1, N', q', h2⟩
  . rw [hq.out] at h2
    simp only [Prod.mk.injEq] at h2
    obtain ⟨rfl, rfl, rfl⟩ := h2
    exact .inl ⟨rfl, h1⟩
  . rw [hq.out] at h2
    simp only [Prod.mk.injEq] at h2
    obtain ⟨rfl, rfl, rfl⟩ := h2
    exact .inr ⟨rfl, h1⟩
 have LL : Hid (L.length <= l.length) := by
  have h := hq.out
  unfold rdB at h
  show _ <= _
  split at h
  . simp only [Prod.mk.injEq] at h
    rw [<- h.1]
    simp only [List.length_take, List.length_drop]
    omega
  . simp only [Prod.mk.injEq] at h
    rw [<- h.1]
    exact Nat.zero_le _
 have K3 : Hid (v3.heap[gR]? = some (.cells #[.pointer (some ⟨g, 0, none⟩),.bool b] 91 (0, 0))) := box_wfr K2.out HK.out.2.1 H4.out.2.2.2
 have HV : Hid (v = .nilIface ∨ ∃ x, v = er x) := by
  rw [H4.out.2.1]
  rcases HC.out with ⟨rfl, _⟩ | ⟨rfl, _⟩
  . exact .inl rfl
  . exact .inr ⟨E 1, rfl⟩
 go_wp2_with (go_at_call 74; refine (note_rm H4.out.2.2.1 K3.out HK.out.2.1 HK.out.2.2 HV.out).mono ?_; rintro e w3 ⟨rfl, H5⟩)
 go_ret
 refine ⟨ab, mb, cb, L, if nilB v = true then o.map (fun _ => q) else none, rfl, ?_⟩
 have bw : Below w.heap.size w v2 := bd.out.trans (b2.out.mono bd.out.size)
 have F := ((Rf.of_below (g := g) (gR := gR) bw).trans (Rf.of_wfr (gR := gR) H4.out.2.2.2)).trans H5.out.1
 have h5 := H5.out.2
 have e0 : k = 0 -> nilB v = true := fun h => by rw [H4.out.2.1, h]; rfl
 have e5 : k = 5 -> ¬ nilB v = true := fun h h2 => by rw [H4.out.2.1, h] at h2; cases h2
 have HO : Own w3 w.heap.size ab mb cb L := by
  rw [h5.2.2]
  refine (H4.out.1.le bw.size).block (fun r hr => heap_setCell_other v3 ⟨gR, 1, none⟩ r _ ?_)
  have h1 := (H4.out.1.ge r hr).1
  have h2 := (gl K2.out)
  show r ≠ gR
  omega
 refine ⟨HO, ⟨⟨q, _, h5.1, h5.2.1, ?_, ?_⟩, HK.out.2.1, HK.out.2.2⟩, F, ?_, LL.out⟩
 . intro h
   by_cases hv : nilB v = true
   . rw [if_pos hv] at h ⊢
     rw [HS.out.1 h]
     rfl
   . rw [if_neg hv] at h
     cases h
 . intro h
   by_cases hv : nilB v = true
   . rw [if_pos hv] at h ⊢
     rw [HS.out.2 h]
     rfl
   . rw [if_neg hv]
 . rcases HC.out with ⟨h0, h1⟩ | ⟨h0, h1⟩
   . rw [if_pos (e0 h0)]
     cases b with
     | false => rw [HS.out.1 rfl]; simp [h1]
     | true => rw [HS.out.2 rfl]; rfl
   . rw [if_neg (e5 h0)]
     cases b with
     | false => rw [HS.out.1 rfl]; simp [h1]
     | true => rw [HS.out.2 rfl]; rfl
def rLd (l : List Nat) (p : Nat) : Option (List Nm × Nat) := (lft l p).bind fun x => (rdA x.1).map fun ys => (ys, x.2)
theorem own_hnc {w : World} {B : Nat} {a : Option Addr} {n c : Nat} {L : List Nat} (h : Own w B a n c L) : n <= c := by
 rcases h.own.2 with ⟨h1, _⟩ | ⟨g, cap, cur, h1, h2, h3, h4, h5⟩
 . simp only [Value.slice.injEq] at h1
   omega
 . simp only [Value.slice.injEq] at h1
   omega
set_option maxHeartbeats 4000000 in
theorem ledger_rm (h : Hid (Rm w g gR B a n c l o)) (hE : Hid (Sent w M E)) (hM : M 1) (hM3 : M 3) (hl : Hid (l.length <= 140737488352256)) (hb : Hid (∀ W, Rf w W g gR -> Sent W M E)) :
  Calls Tryd.prog 66 #[.pointer (some ⟨gR, 0, none⟩)] w fun e w' => ∃ (la : Option Addr) (ln lc : Nat) (o' : Option Nat) (ys : List Nm), e = .returned (.slice la ln lc) /\ Hid ((∃ Y, led Y = ys.map Nm.cm /\ Oc w' w.heap.size la ln lc Y) /\ Rm w' g gR B a n c l o' /\ Rf w w' g gR /\ o.bind (rLd l) = o'.map (fun q => (ys, q))) := by
 go_enter Tryd.func66, Tryd.ntmps66
 go_upto_region 2 with first
  | (go_at_call 67; refine (bytes_rm h hE hM).mono ?_; rintro e w2 ⟨a2, n2, c2, L, o2, rfl, H2⟩
     have S2 : Hid (Sln w2 a2 n2 L) := H2.out.1.sln (by have := H2.out.1.len; have := H2.out.2.2.2.2; have := hl.out; omega)
     have Z2 : Hid (a2 = none -> c2 = 0) := H2.out.1.cap0
     have N2 : n2 <= c2 := own_hnc H2.out.1
     have E2 : Hid (Sent w2 M E) := hb.out w2 H2.out.2.2.1)
  | (go_at_call 75; refine (readA_any S2 Z2 N2 E2 hM hM3).mono ?_; rintro e w3 ⟨la, ln, lc, v, rfl, H3⟩)
 obtain ⟨b3, Y, ys, hY, hO, hv⟩ := H3.out
 obtain ⟨⟨p, b, hR, hk, s1, s2⟩, ne, ap⟩ := (H2.out.2.1.below b3)
 have HR : Hid (Rdr w3 g B a n c l p) := hR
 have HS : Hid ((b = false -> o2 = some p) /\ (b = true -> o2 = none)) := ⟨s1, s2⟩
 have HK : Hid (w3.heap[gR]? = some (.cells #[.pointer (some ⟨g, 0, none⟩),.bool b] 91 (0, 0)) /\ gR ≠ g /\ blkOf a ≠ some gR) := ⟨hk, ne, ap⟩
 have HY : Hid (led Y = ys.map Nm.cm /\ Oc w3 w2.heap.size la ln lc Y) := ⟨hY, hO⟩
 have HV : Hid ((rdA L = some ys /\ v = .nilIface) ∨ (rdA L = none /\ ∃ x, v = er x)) := hv
 have B3 : Hid (Below w2.heap.size w2 w3) := b3
 have GL : Hid (gR < w2.heap.size) := H2.out.2.1.lt.1
 clear hR s1 s2 hk ne ap hY hO hv b3 H3
 have HV2 : Hid (v = .nilIface ∨ ∃ x, v = er x) := by
  rcases HV.out with ⟨_, h⟩ | ⟨_, h⟩
  . exact .inl h
  . exact .inr h
 go_wp2_with (go_at_call 74; refine (note_rm HR.out HK.out.1 HK.out.2.1 HK.out.2.2 HV2.out).mono ?_; rintro e w4 ⟨rfl, H5⟩)
 go_ret
 refine ⟨la, ln, lc, if nilB v = true then o2 else none, ys, rfl, ?_⟩
 have h5 := H5.out.2
 have F := (H2.out.2.2.1.trans (Rf.of_below (g := g) (gR := gR) B3.out)).trans H5.out.1
 have HO : Oc w4 w.heap.size la ln lc Y := by
  rw [h5.2.2]
  have hbl : ∀ r, w2.heap.size <= r -> (w3.setCell ⟨gR, 1, none⟩ (.bool (if nilB v = true then b else true))).heap[r]? = w3.heap[r]? := fun r hr => heap_setCell_other w3 ⟨gR, 1, none⟩ r _ (by have := GL.out; show r ≠ gR; omega)
  have h := HY.out.2
  exact ⟨rown_mono (rown_bel h.row (fun r hr => hbl r (h.row.lt r hr).1)) H2.out.2.2.1.size, h.sz, (fun x hx => ⟨rown_mono (rown_bel (h.ps x hx).1 (fun r hr => hbl r ((h.ps x hx).1.lt r hr).1)) H2.out.2.2.1.size, (h.ps x hx).2⟩), h.st⟩
 have REL : o.bind (rLd l) = (o2.map (fun q => (L, q))).bind (fun x => (rdA x.1).map fun ys => (ys, x.2)) := by
  rw [<- H2.out.2.2.2.1]
  cases o <;> rfl
 refine ⟨⟨Y, HY.out.1, HO⟩, ⟨⟨p, _, h5.1, h5.2.1, ?_, ?_⟩, HK.out.2.1, HK.out.2.2⟩, F, ?_⟩
 . intro h
   by_cases hv : nilB v = true
   . rw [if_pos hv] at h ⊢
     exact HS.out.1 h
   . rw [if_neg hv] at h
     cases h
 . intro h
   by_cases hv : nilB v = true
   . rw [if_pos hv] at h ⊢
     exact HS.out.2 h
   . rw [if_neg hv]
 . rw [REL]
   rcases HV.out with ⟨h1, h2⟩ | ⟨h1, x, h2⟩
   . rw [if_pos (show nilB v = true by rw [h2]; rfl)]
     cases o2 with
     | none => rfl
     | some q => simp [h1]
   . rw [if_neg (show ¬ nilB v = true by rw [h2]; intro h; cases h)]
     cases o2 with
     | none => rfl
     | some q => simp [h1]
end
def andR {α β : Type} (f : Nat -> Option (α × Nat)) (g : Nat -> Option (β × Nat)) : Nat -> Option ((α × β) × Nat) := fun p => (f p).bind fun u => (g u.2).bind fun v => some ((u.1, v.1), v.2)
def nop : Nat -> Option (Unit × Nat) := fun p => some ((), p)
def nuR (l : List Nat) : Nat -> Option (Nat × Nat) := fun p => rn l p 9223372036854775807
def obR (l : List Nat) : Nat -> Option (Nat × Nat) := fun p => rn l p 1
theorem nop_rel (o : Option Nat) : o.bind nop = o.map (fun q => ((), q)) := by cases o <;> rfl
theorem andR_rel {α β : Type} {f : Nat -> Option (α × Nat)} {g : Nat -> Option (β × Nat)} {o o1 o2 : Option Nat} {x : α} {y : β} (h1 : o.bind f = o1.map (fun q => (x, q))) (h2 : o1.bind g = o2.map (fun q => (y, q))) : o.bind (andR f g) = o2.map (fun q => ((x, y), q)) := by
 cases o with
 | none =>
   cases o1 with
   | none =>
     cases o2 with
     | none => rfl
     | some q => simp at h2
   | some q => simp at h1
 | some p =>
   simp only [Option.bind_some] at h1 ⊢
   unfold andR
   rw [h1]
   cases o1 with
   | none =>
     cases o2 with
     | none => rfl
     | some q => simp at h2
   | some q =>
     simp only [Option.bind_some, Option.map_some] at h2 ⊢
     rw [h2]
     cases o2 <;> rfl
def rId (l : List Nat) : Nat -> Option ((((Unit × Nat) × Nat) × Nat) × Nat) := andR (andR (andR nop (nuR l)) (nuR l)) (nuR l)
def rBal (l : List Nat) : Nat -> Option (((Unit × Nat) × Nat) × Nat) := andR (andR nop (nuR l)) (nuR l)
theorem Rdr.frame {W W' : World} {g B k : Nat} {a : Option Addr} {n c : Nat} {l : List Nat} {p : Nat} (h : Rdr W g B a n c l p) (hb : ∀ j, j ≠ k -> W'.heap[j]? = W.heap[j]?) (h1 : k ≠ g) (h3 : blkOf a ≠ some k) : Rdr W' g B a n c l p :=
 ⟨(hb g (Ne.symm h1)).trans h.blk, h.own.block (fun q hq => hb q (fun e => h3 (by rw [hq, e]))), h.ne, h.le, h.sz⟩
theorem Rm.frame {W W' : World} {g gR B k : Nat} {a : Option Addr} {n c : Nat} {l : List Nat} {o : Option Nat} (h : Rm W g gR B a n c l o) (hb : ∀ j, j ≠ k -> W'.heap[j]? = W.heap[j]?) (h1 : k ≠ g) (h2 : k ≠ gR) (h3 : blkOf a ≠ some k) : Rm W' g gR B a n c l o := by
 obtain ⟨⟨p, b, k1, k2, k3, k4⟩, ne, ap⟩ := h
 exact ⟨⟨p, b, k1.frame hb h1 h3, (hb gR (Ne.symm h2)).trans k2, k3, k4⟩, ne, ap⟩
theorem Rm.ag {W : World} {g gR B : Nat} {a : Option Addr} {n c : Nat} {l : List Nat} {o : Option Nat} (h : Rm W g gR B a n c l o) : ∀ q, blkOf a = some q -> q < W.heap.size := fun q hq => by
 obtain ⟨⟨p, b, k1, _⟩, _⟩ := h
 exact (k1.own.ge q hq).2
theorem Rf.row {w w' : World} {g gR k : Nat} (h : Rf w w' g gR) (hk : w.heap.size <= k) (V : Array Value) : Rf w (w'.setRow k V) g gR :=
 ⟨h.os, h.tape, h.output, by simp; exact h.size, fun j hj h1 h2 => (setRow_other _ _ _ _ (by omega)).trans (h.block j hj h1 h2)⟩
theorem Rf.cell {w w' : World} {g gR k : Nat} (h : Rf w w' g gR) (hk : w.heap.size <= k) (i : Nat) (v : Value) : Rf w (w'.setCell ⟨k, i, none⟩ v) g gR :=
 ⟨h.os, h.tape, h.output, by simp [World.setCell]; exact h.size, fun j hj h1 h2 => (heap_setCell_other w' ⟨k, i, none⟩ j v (by show j ≠ k; omega)).trans (h.block j hj h1 h2)⟩
theorem info23 {A : Array Value} (h : A.size = 3) : (Tryd.prog.info? 23).map (·.size) = some A.size := by rw [h]; kernel_rfl
theorem info25 {A : Array Value} (h : A.size = 2) : (Tryd.prog.info? 25).map (·.size) = some A.size := by rw [h]; kernel_rfl
theorem all_i2 (a b : Int) : (#[.int .i64 a,.int .i64 b] : Array Value).all (·.oneCell') = true := all_oneCell_toArray (fun v hv => by
 simp only [List.mem_cons, List.not_mem_nil, or_false] at hv
 rcases hv with rfl | rfl <;> rfl)
theorem all_i3 (a b c : Int) : (#[.int .i64 a,.int .i64 b,.int .i64 c] : Array Value).all (·.oneCell') = true := all_oneCell_toArray (fun v hv => by
 simp only [List.mem_cons, List.not_mem_nil, or_false] at hv
 rcases hv with rfl | rfl | rfl <;> rfl)
theorem res1_23 {fn : Func} (h : fn.results = #[.cell 2 23]) (tmps : Array Value) (w : World) (g2 : Nat) (A : Array Value) (hp2 : tmps[2]?.getD undef = .pointer (some ⟨g2, 0, none⟩)) (hg : w.heap[g2]? = some (.cells A 23 (0, 0))) (hA : A.size = 3) : (results fn tmps).run Tryd.prog w = .ok (.agg A) w := by
 simp [results, h, hp2, asAddr, run_loadVar_row w g2 23 23 A (0, 0) _ hg Tryd.underlying23 rfl (info23 hA)]
theorem res1_25 {fn : Func} (h : fn.results = #[.cell 2 25]) (tmps : Array Value) (w : World) (g2 : Nat) (A : Array Value) (hp2 : tmps[2]?.getD undef = .pointer (some ⟨g2, 0, none⟩)) (hg : w.heap[g2]? = some (.cells A 25 (0, 0))) (hA : A.size = 2) : (results fn tmps).run Tryd.prog w = .ok (.agg A) w := by
 simp [results, h, hp2, asAddr, run_loadVar_row w g2 25 25 A (0, 0) _ hg Tryd.underlying25 rfl (info25 hA)]
theorem res1_29 {fn : Func} (h : fn.results = #[.cell 2 29]) (tmps : Array Value) (w : World) (g2 : Nat) (A : Array Value) (hp2 : tmps[2]?.getD undef = .pointer (some ⟨g2, 0, none⟩)) (hg : w.heap[g2]? = some (.cells A 29 (0, 0))) (hA : A.size = 16) : (results fn tmps).run Tryd.prog w = .ok (.agg A) w := by
 simp [results, h, hp2, asAddr, run_loadVar_row w g2 29 29 A (0, 0) _ hg Tryd.underlying29 rfl (info29 hA)]
section
variable {w : World} {g gR B : Nat} {M : Nat -> Prop} {E : Nat -> Addr} {a : Option Addr} {n c : Nat} {l : List Nat} {o : Option Nat}
theorem hidI {p : Prop} (h : p) : Hid p := h
set_option maxHeartbeats 4000000 in
theorem id_rm (h : Hid (Rm w g gR B a n c l o)) (hM : M 1) (hb : Hid (∀ W, Rf w W g gR -> Sent W M E)) :
  Calls Tryd.prog 64 #[.pointer (some ⟨gR, 0, none⟩)] w fun e w' => ∃ (X Y Z : Nat) (o' : Option Nat), e = .returned (.agg #[.int .i64 (X : Int),.int .i64 (Y : Int),.int .i64 (Z : Int)]) /\ Hid (Rm w' g gR B a n c l o' /\ Rf w w' g gR /\ o.bind (rId l) = o'.map (fun q => (((((), X), Y), Z), q)) /\ X < 9223372036854775808 /\ Y < 9223372036854775808 /\ Z < 9223372036854775808) := by
 obtain ⟨g2, Hg2⟩ := nm (w.heap.size)
 obtain ⟨w1, Hw1⟩ := nm (w.alloc (.cells #[.int .i64 0,.int .i64 0,.int .i64 0] 23))
 have B1 := al1 Hw1
 have k2 : Hid (w1.heap[g2]? = some (.cells #[.int .i64 0,.int .i64 0,.int .i64 0] 23 (0, 0))) := by rw [<- Hw1.out, <- Hg2.out]; exact heap_alloc_new w _
 have S : Hid (Rm w1 g gR B a n c l o) := h.out.below B1.out
 have F : Hid (Rf w w1 g gR) := Rf.of_below B1.out
 have E1 : Hid (Sent w1 M E) := hb.out w1 F.out
 have R : Hid (o.bind nop = o.map (fun q => ((), q))) := nop_rel o
 have GN : Hid (g < w.heap.size /\ gR < w.heap.size /\ (∀ q, blkOf a = some q -> q < w.heap.size)) := ⟨h.out.lt.2, h.out.lt.1, h.out.ag⟩
 have K : Hid (w1.heap[g2]? = some (.cells #[.int .i64 0,.int .i64 0,.int .i64 0] 23 (0, 0))) := k2.out
 clear k2 B1
 go_enter Tryd.func64, Tryd.ntmps64
 go_upto_region 1 with (fail)
 rw [Hw1.out, Hg2.out]
 go_upto_region 2 with first
  | (go_at_call 63; refine (num_rm S (by omega) E1 hM).mono ?_; rintro e wn ⟨Nn, on, rfl, H⟩
     have K := show Hid (wn.heap[g2]? = some (.cells #[.int .i64 0,.int .i64 0,.int .i64 0] 23 (0, 0))) from (H.out.2.1.block g2 (gl K.out) (by have := GN.out; have := Hg2.out; omega) (by have := GN.out; have := Hg2.out; omega)).trans K.out
     have F := show Hid (Rf w wn g gR) from F.out.trans H.out.2.1
     have E1 := show Hid (Sent wn M E) from hb.out wn F.out
     have S := show Hid (Rm wn g gR B a n c l on) from H.out.1
     have R := hidI (andR_rel (g := nuR l) R.out H.out.2.2.1)
     have LTn : Hid (Nn < 9223372036854775808) := H.out.2.2.2
     clear H)
 go_wp2_with (refine wpList_store_row (by rfl) 23 (.tmp 2) (.tmp 15) (by rfl) g2 #[.int .i64 (_ : Int),.int .i64 (_ : Int),.int .i64 (_ : Int)] (by rfl) (by rfl) 23 _ K.out (info23 (by rfl)) (by rfl) (all_i3 _ _ _) ?_)
 refine bodyPost_ret (res1_23 Tryd.results64 _ _ g2 _ (by rfl) (setRow_heap _ _ _ _ _ _ K.out) (by rfl)) rfl ?_
 refine ⟨_, _, _, _, rfl, S.out.frame (k := g2) (fun j hj => setRow_other _ _ _ _ hj) (by have := GN.out; have := Hg2.out; omega) (by have := GN.out; have := Hg2.out; omega) (fun e => by have := GN.out.2.2 g2 e; have := Hg2.out; omega), F.out.row (by have := Hg2.out; omega) _, R.out, ?_⟩
 refine ⟨?_, ?_, ?_⟩
 all_goals first | assumption | (apply Hid.out; assumption)
set_option maxHeartbeats 4000000 in
theorem bal_rm (h : Hid (Rm w g gR B a n c l o)) (hM : M 1) (hb : Hid (∀ W, Rf w W g gR -> Sent W M E)) :
  Calls Tryd.prog 65 #[.pointer (some ⟨gR, 0, none⟩)] w fun e w' => ∃ (X Y : Nat) (o' : Option Nat), e = .returned (.agg #[.int .i64 (X : Int),.int .i64 (Y : Int)]) /\ Hid (Rm w' g gR B a n c l o' /\ Rf w w' g gR /\ o.bind (rBal l) = o'.map (fun q => ((((), X), Y), q)) /\ X < 9223372036854775808 /\ Y < 9223372036854775808) := by
 obtain ⟨g2, Hg2⟩ := nm (w.heap.size)
 obtain ⟨w1, Hw1⟩ := nm (w.alloc (.cells #[.int .i64 0,.int .i64 0] 25))
 have B1 := al1 Hw1
 have k2 : Hid (w1.heap[g2]? = some (.cells #[.int .i64 0,.int .i64 0] 25 (0, 0))) := by rw [<- Hw1.out, <- Hg2.out]; exact heap_alloc_new w _
 have S : Hid (Rm w1 g gR B a n c l o) := h.out.below B1.out
 have F : Hid (Rf w w1 g gR) := Rf.of_below B1.out
 have E1 : Hid (Sent w1 M E) := hb.out w1 F.out
 have R : Hid (o.bind nop = o.map (fun q => ((), q))) := nop_rel o
 have GN : Hid (g < w.heap.size /\ gR < w.heap.size /\ (∀ q, blkOf a = some q -> q < w.heap.size)) := ⟨h.out.lt.2, h.out.lt.1, h.out.ag⟩
 have K : Hid (w1.heap[g2]? = some (.cells #[.int .i64 0,.int .i64 0] 25 (0, 0))) := k2.out
 clear k2 B1
 go_enter Tryd.func65, Tryd.ntmps65
 go_upto_region 1 with (fail)
 rw [Hw1.out, Hg2.out]
 go_upto_region 2 with first
  | (go_at_call 63; refine (num_rm S (by omega) E1 hM).mono ?_; rintro e wn ⟨Nn, on, rfl, H⟩
     have K := show Hid (wn.heap[g2]? = some (.cells #[.int .i64 0,.int .i64 0] 25 (0, 0))) from (H.out.2.1.block g2 (gl K.out) (by have := GN.out; have := Hg2.out; omega) (by have := GN.out; have := Hg2.out; omega)).trans K.out
     have F := show Hid (Rf w wn g gR) from F.out.trans H.out.2.1
     have E1 := show Hid (Sent wn M E) from hb.out wn F.out
     have S := show Hid (Rm wn g gR B a n c l on) from H.out.1
     have R := hidI (andR_rel (g := nuR l) R.out H.out.2.2.1)
     have LTn : Hid (Nn < 9223372036854775808) := H.out.2.2.2
     clear H)
 go_wp2_with (refine wpList_store_row (by rfl) 25 (.tmp 2) (.tmp 11) (by rfl) g2 #[.int .i64 (_ : Int),.int .i64 (_ : Int)] (by rfl) (by rfl) 25 _ K.out (info25 (by rfl)) (by rfl) (all_i2 _ _) ?_)
 refine bodyPost_ret (res1_25 Tryd.results65 _ _ g2 _ (by rfl) (setRow_heap _ _ _ _ _ _ K.out) (by rfl)) rfl ?_
 refine ⟨_, _, _, rfl, S.out.frame (k := g2) (fun j hj => setRow_other _ _ _ _ hj) (by have := GN.out; have := Hg2.out; omega) (by have := GN.out; have := Hg2.out; omega) (fun e => by have := GN.out.2.2 g2 e; have := Hg2.out; omega), F.out.row (by have := Hg2.out; omega) _, R.out, ?_⟩
 refine ⟨?_, ?_⟩
 all_goals first | assumption | (apply Hid.out; assumption)
end
end Go.Proofs.YtppibcambhmomaaDoor
