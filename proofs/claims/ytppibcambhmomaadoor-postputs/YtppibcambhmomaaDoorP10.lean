import Derived.Test.YtppibcambhmomaaDoorPp
import Derived.Test.YtppibcambhmomaaDoorP04
import Derived.Test.YtppibcambhmomaaDoorP09
namespace Go.Proofs.YtppibcambhmomaaDoor
set_option maxRecDepth 20000
set_option linter.unusedVariables false
def cv1 (c : Nat) (v : Value) (t : ByteArray) (L : Array Bool) (W : World) : Prop := L.getD c false = true ∨ (convert 27 9 v).run Tryd.prog W = .ok (.string t) W
end Go.Proofs.YtppibcambhmomaaDoor
namespace Go.Proofs.YtppibcambhmomaaDoor
set_option maxRecDepth 20000
open Go.ChangeShapes Go.WideShapes Go.ChangeAt Go.RowKit
set_option linter.unusedVariables false
set_option linter.unusedSimpArgs false
theorem slice_from {w : World} {a : Option Addr} {n c lo : Nat} {l : List Nat} (h : Sln w a n l) (hlo : lo <= n) (hc : n <= c) : Sln w (if c = lo then a else a.map (·.add lo)) (n - lo) (l.drop lo) := by
 have e := h.len
 refine ⟨by simp; omega, fun x hx => h.lt x (List.mem_of_mem_drop hx), by have := h.sli.2.1; simp; omega, ?_⟩
 by_cases h0 : l.drop lo = []
 . exact .inl h0
 . right
   have h1 : lo < l.length := by
    have : ¬ l.length <= lo := fun hh => h0 (List.drop_eq_nil_of_le hh)
    omega
   obtain ⟨b, off, rfl, hl, hr⟩ := h.sli.2.2.resolve_left (by intro hh; rw [hh] at h1; simp at h1)
   rw [if_neg (by omega)]
   refine ⟨b, off + lo, by simp [Addr.add], hl, fun i hi => ?_⟩
   have h2 := hr (lo + i) (by simp at hi; omega)
   have h3 : (l.drop lo).getD i 0 = l.getD (lo + i) 0 := by simp [List.getD]
   rw [h3, Nat.add_assoc]
   exact h2
structure Rdr (w : World) (g B : Nat) (a : Option Addr) (n c : Nat) (l : List Nat) (p : Nat) : Prop where
 blk : w.heap[g]? = some (.cells #[.slice a n c,.int .i64 (p : Int)] 104 (0, 0))
 own : Own w B a n c l
 ne : blkOf a ≠ some g
 le : p <= n
 sz : n <= 140737488352256
theorem Rdr.lt {w : World} {g B : Nat} {a : Option Addr} {n c : Nat} {l : List Nat} {p : Nat} (h : Rdr w g B a n c l p) : g < w.heap.size := (gl h.blk)
theorem Rdr.c0 {w : World} {g B : Nat} {a : Option Addr} {n c : Nat} {l : List Nat} {p : Nat} (h : Rdr w g B a n c l p) : w.cell? ⟨g, 0, none⟩ = some (.slice a n c) := by
 have := h.blk
 simp [World.cell?, this]
theorem Rdr.c1 {w : World} {g B : Nat} {a : Option Addr} {n c : Nat} {l : List Nat} {p : Nat} (h : Rdr w g B a n c l p) : w.cell? ⟨g, 1, none⟩ = some (.int .i64 (p : Int)) := by
 have := h.blk
 simp [World.cell?, this]
theorem Rdr.drewN {w : World} {g B : Nat} {a : Option Addr} {n c : Nat} {l : List Nat} {p : Nat} (h : Rdr w g B a n c l p) (j : Nat) : Rdr (w.drewN j) g B a n c l p := ⟨h.blk, ⟨h.own.len, h.own.own, h.own.lt⟩, h.ne, h.le, h.sz⟩
theorem Rdr.below {w w' : World} {g B : Nat} {a : Option Addr} {n c : Nat} {l : List Nat} {p : Nat} (h : Rdr w g B a n c l p) (hb : Below w.heap.size w w') : Rdr w' g B a n c l p := ⟨(hb.block g h.lt).trans h.blk, h.own.below hb, h.ne, h.le, h.sz⟩
theorem Rdr.go {w : World} {g B : Nat} {a : Option Addr} {n c : Nat} {l : List Nat} {p : Nat} (h : Rdr w g B a n c l p) {q : Nat} (hq : q <= n) : Rdr (w.setCell ⟨g, 1, none⟩ (.int .i64 (q : Int))) g B a n c l q /\ Wfr w (w.setCell ⟨g, 1, none⟩ (.int .i64 (q : Int))) g none :=
 ⟨⟨by rw [set_blk h.blk]; rfl, h.own.block (fun k hk => Below.heap_setCell _ _ _ _ (fun e => h.ne (by rw [hk, e]))), h.ne, hq, h.sz⟩, (Wfr.refl w g none).setCell 1 _⟩
theorem wfr_drewN (w : World) (g j : Nat) : Wfr w (w.drewN j) g none := ⟨rfl, rfl, rfl, Nat.le_refl _, fun _ _ _ _ => rfl⟩
theorem Wfr.none_trans {w w1 w2 : World} {g : Nat} (h : Wfr w w1 g none) (h1 : Wfr w1 w2 g none) : Wfr w w2 g none := h.trans h1 (fun q hq => .inl hq)
set_option maxHeartbeats 1000000 in
theorem newReader_n {w : World} {a : Option Addr} {n c : Nat} {l : List Nat} (hS : Hid (Sln w a n l)) (hc : Hid (a = none -> c = 0)) :
  Calls Tryd.prog 49 #[.slice a n c] w fun e w' => ∃ g a' c', e = .returned (.pointer (some ⟨g, 0, none⟩)) /\ Hid (Rdr w' g w.heap.size a' n c' l 0 /\ w.heap.size <= g /\ Below w.heap.size w w') := by
 have m := hS.out.sli.2.1
 have e := hS.out.len
 rw [<- e] at m
 clear e
 go_enter Tryd.func49, Tryd.ntmps49
 go_wp2_with (first
  | (go_at_call 48; refine (clone_n hS hc).mono ?_; rintro e w1 ⟨a1, c1, rfl, H1⟩))
 go_ret
 refine ⟨_, a1, c1, rfl, ⟨heap_alloc_new w1 _, ⟨H1.out.1.len, H1.out.1.own.alloc _, H1.out.1.lt⟩, fun e => ?_, Nat.zero_le _, m⟩, H1.out.2.size, H1.out.2.alloc H1.out.2.size _⟩
 have := (H1.out.1.ge _ e).2
 omega
set_option maxHeartbeats 1000000 in
theorem left_n {w : World} {g B : Nat} {a : Option Addr} {n c : Nat} {l : List Nat} {p : Nat} (hR : Hid (Rdr w g B a n c l p)) :
  Calls Tryd.prog 77 #[.pointer (some ⟨g, 0, none⟩)] w fun e w' => ∃ a' c', e = .returned (.slice a' (n - p) c') /\ Hid (Sln w a' (n - p) (l.drop p) /\ ∃ j, w' = w.drewN j) := by
 have c0 := hR.out.c0
 have c1 := hR.out.c1
 have h1 := hR.out.le
 have h2 := hR.out.own.cap
 have h3 := hR.out.sz
 have S : Hid (Sln w (if c = p then a else a.map (·.add p)) (n - p) (l.drop p)) := slice_from (hR.out.own.sln hR.out.sz) h1 h2
 go_enter Tryd.func77, Tryd.ntmps77
 go_wp2
 go_quiet (fail)
 go_wp2
 all_goals
  go_ret
  first
   | exact ⟨_, ⟨_, rfl⟩, by have := S.out; rw [if_pos (by assumption)] at this; exact this, nq, rfl⟩
   | exact ⟨_, ⟨_, rfl⟩, by have := S.out; rw [if_neg (by assumption)] at this; exact this, nq, rfl⟩
theorem lft_n {w : World} {g B : Nat} {a : Option Addr} {n c : Nat} {l : List Nat} {p : Nat} (hR : Hid (Rdr w g B a n c l p)) :
  Calls Tryd.prog 68 #[.pointer (some ⟨g, 0, none⟩)] w fun e w' => e = .returned (.int .i64 ((n - p : Nat) : Int)) /\ Hid (∃ j, w' = w.drewN j) := by
 go_enter Tryd.func68, Tryd.ntmps68
 go_wp2_with (first
  | (go_at_call 77; refine (left_n hR).mono ?_; rintro e w1 ⟨a1, c1, rfl, H1⟩))
 go_ret
 exact ⟨rfl, H1.out.2⟩
theorem end_ok {w : World} {g B : Nat} {a : Option Addr} {n c : Nat} {l : List Nat} {p : Nat} (hR : Hid (Rdr w g B a n c l p)) (hp : Hid (p = n)) :
  Calls Tryd.prog 51 #[.pointer (some ⟨g, 0, none⟩)] w fun e w' => e = .returned .nilIface /\ Hid (∃ j, w' = w.drewN j) := by
 obtain ⟨d, Hd⟩ := nm (n - p)
 have i1 : ¬ ((0 : Int) < (d : Int)) := by have h1 := Hd.out; have h2 := hp.out; omega
 go_enter Tryd.func51, Tryd.ntmps51
 go_wp2_with (first
  | (go_at_call 68; refine (lft_n hR).mono ?_; rintro e w1 ⟨rfl, H1⟩; rw [Hd.out]))
 go_ret
 exact ⟨rfl, H1.out⟩
set_option maxHeartbeats 1000000 in
theorem rnum_ok {w : World} {g B : Nat} {a : Option Addr} {n c : Nat} {l : List Nat} {p N S : Nat} {z : Int} (hR : Hid (Rdr w g B a n c l p)) (hN : Hid (nat 9 (l.drop p) 0 0 = (N, S, true))) (hz : (N : Int) <= z) (hz2 : z <= 9223372036854775807) :
  Calls Tryd.prog 73 #[.pointer (some ⟨g, 0, none⟩),.int .i64 z] w fun e w' => e = .returned (.tuple #[.int .i64 (N : Int), .nilIface]) /\ Hid (Rdr w' g B a n c l (p + S) /\ Wfr w w' g none) := by
 have hb := nat_bound 9 (l.drop p) 0 0 (by simp) (by rw [hN.out])
 rw [hN.out] at hb
 have hS : p + S <= n := by
  have h1 := hb.2.2.1
  have h2 := hR.out.own.len
  have h3 := hR.out.le
  simp only [List.length_drop] at h1
  omega
 have h3 := hR.out.sz
 obtain ⟨q, Hq⟩ : ∃ q, q = p + S := ⟨_, rfl⟩
 have eq : (p : Int) + (S : Int) = (q : Int) := by omega
 have hq : q <= n := by omega
 have HQ : Hid (p + S = q) := Hq.symm
 rw [HQ.out]
 clear Hq hS hb
 go_enter Tryd.func73, Tryd.ntmps73
 go_upto_region 2 with (first
  | (go_at_call 77; refine (left_n hR).mono ?_; rintro e w1 ⟨a1, c1, rfl, H1⟩
     have R1 : Hid (Rdr w1 g B a n c l p /\ Wfr w w1 g none /\ Sln w1 a1 (n - p) (l.drop p)) := by
      obtain ⟨j, hj⟩ := H1.out.2
      rw [hj]
      exact ⟨hR.out.drewN j, wfr_drewN w g j, H1.out.1.drewN j⟩
     have S1 : Hid (Sln w1 a1 (n - p) (l.drop p)) := R1.out.2.2)
  | (go_at_call 85; refine (numberAt_n S1 hN).mono ?_; rintro e w2 ⟨rfl, H2⟩))
 have R2 : Hid (Rdr w2 g B a n c l p) := by obtain ⟨j, hj⟩ := H2.out; rw [hj]; exact R1.out.1.drewN j
 have F2 : Hid (Wfr w w2 g none) := by obtain ⟨j, hj⟩ := H2.out; rw [hj]; exact R1.out.2.1.none_trans (wfr_drewN _ _ _)
 have d1 := R2.out.c1
 have f1 : w2.frozen? ⟨g, 1, none⟩ = false := fz R2.out.blk 1
 have FIN : Hid (Rdr (w2.setCell ⟨g, 1, none⟩ (.int .i64 (q : Int))) g B a n c l q /\ Wfr w (w2.setCell ⟨g, 1, none⟩ (.int .i64 (q : Int))) g none) := ⟨(R2.out.go hq).1, F2.out.none_trans (R2.out.go hq).2⟩
 have i1 : ¬ (z < (N : Int)) := by omega
 clear R1 H1 H2 R2 F2
 go_wp2
 go_ret2
 exact ⟨rfl, FIN.out⟩
set_option maxHeartbeats 1000000 in
theorem rnum_bad {w : World} {g B : Nat} {M : Nat -> Prop} {a : Option Addr} {n c : Nat} {l : List Nat} {p N S : Nat} {z : Int} {E : Nat -> Addr} (hR : Hid (Rdr w g B a n c l p)) (hN : Hid (nat 9 (l.drop p) 0 0 = (N, S, false))) (hE : Hid (Sent w M E)) (hM : M 1) :
  Calls Tryd.prog 73 #[.pointer (some ⟨g, 0, none⟩),.int .i64 z] w fun e w' => e = .returned (.tuple #[.int .i64 0, .iface 142 (.pointer (some (E 1)))]) /\ Hid (∃ j, w' = w.drewN j) := by
 go_enter Tryd.func73, Tryd.ntmps73
 go_upto_region 2 with (first
  | (go_at_call 77; refine (left_n hR).mono ?_; rintro e w1 ⟨a1, c1, rfl, H1⟩
     have S1 : Hid (Sln w1 a1 (n - p) (l.drop p)) := by
      obtain ⟨j, hj⟩ := H1.out.2
      rw [hj]
      exact H1.out.1.drewN j)
  | (go_at_call 85; refine (numberAt_n S1 hN).mono ?_; rintro e w2 ⟨rfl, H2⟩))
 have D2 : Hid (∃ j, w2 = w.drewN j) := by
  obtain ⟨i, hi⟩ := H1.out.2
  obtain ⟨j, hj⟩ := H2.out
  exact ⟨i + j, by rw [hj, hi]; simp [go_sem]⟩
 have ce : w2.cell? ⟨1, 0, none⟩ = some (.iface 142 (.pointer (some (E 1)))) := by obtain ⟨j, hj⟩ := D2.out; rw [hj, cell_drewN]; exact hE.out.c 1 hM
 have D3 : Hid (∀ i, ∃ j, w2.drewN i = w.drewN j) := by
  obtain ⟨j, hj⟩ := D2.out
  exact fun i => ⟨j + i, by rw [hj]; simp [go_sem]⟩
 clear H1 H2 D2
 go_wp2
 go_quiet (fail)
 go_wp2
 go_ret2
 exact ⟨rfl, D3.out _⟩
end Go.Proofs.YtppibcambhmomaaDoor
namespace Go.Proofs.YtppibcambhmomaaDoor
open Go.ChangeShapes Go.WideShapes Go.ChangeAt Go.RowKit
set_option linter.unusedVariables false
set_option linter.unusedSimpArgs false
set_option maxHeartbeats 1000000 in
theorem refbytes_n {w : World} {a : Option Addr} {n c : Nat} {l : List Nat} (h : Hid (Sln w a n l)) (hc : Hid (a = none -> c = 0)) (hn : n + 9 <= 140737488352256) :
  Calls Tryd.prog 26 #[.slice a n c] w fun e w' => ∃ a' m c', e = .returned (.slice a' m c') /\ Hid (Own w' w.heap.size a' m c' (enc n ++ l) /\ Below w.heap.size w w') := by
 have hN : n < 9223372036854775808 := by omega
 go_enter Tryd.func26, Tryd.ntmps26
 go_wp2_with (first
  | (go_at_call 25; refine (refnum_n hN).mono ?_; rintro e w1 ⟨a1, n1, c1, rfl, H1⟩
     have b1 : n1 <= 9 := by rw [H1.out.1.len]; exact enc_nine hN
     obtain ⟨a2, c2, w2, hrun, own2, gr2, new2⟩ := app_any (c2 := c) H1.out.1 (h.out.below H1.out.2) hc.out (by omega) H1.out.2.size
     have AP : Hid ((Builtin.append_ #[27, 27] 27 #[.slice a1 n1 c1,.slice a n c]).run Tryd.prog w1 = .ok (.slice a2 (n1 + n) c2) w2) := hrun
     have F : Hid (Own w2 w.heap.size a2 (n1 + n) c2 (enc n ++ l) /\ Below w.heap.size w w2) := ⟨own2, H1.out.2.grown gr2 H1.out.2.size (fun j hj => (H1.out.1.ge j hj).1)⟩
     clear hrun own2 gr2 new2)
  | (at_builtin; refine wpList_app (by rfl) (.tmp 5) (.tmp 6) (by rfl) (by rfl) (by rfl) (by rfl) AP ?_))
 go_ret
 exact ⟨a2, n1 + n, c2, rfl, F.out⟩
end Go.Proofs.YtppibcambhmomaaDoor
namespace Go.Proofs.YtppibcambhmomaaDoor
set_option maxRecDepth 20000
open Go.ChangeShapes Go.WideShapes Go.ChangeAt Go.RowKit
set_option linter.unusedVariables false
set_option linter.unusedSimpArgs false
set_option maxHeartbeats 2000000 in
theorem piece_ok {w : World} {g B : Nat} {a : Option Addr} {n c : Nat} {l : List Nat} {p N S : Nat} {z : Int} (hR : Hid (Rdr w g B a n c l p)) (hN : Hid (nat 9 (l.drop p) 0 0 = (N, S, true))) (hz : (N : Int) <= z) (hz2 : z <= 9223372036854775807) (hf : p + S + N <= n) :
  Calls Tryd.prog 88 #[.pointer (some ⟨g, 0, none⟩),.int .i64 z] w fun e w' => ∃ a' m c', e = .returned (.tuple #[.slice a' m c', .nilIface]) /\ Hid (m = N /\ Sln w' a' m ((l.drop (p + S)).take N) /\ (a' = none -> c' = 0) /\ Rdr w' g B a n c l (p + S + N) /\ Wfr w w' g none) := by
 have h3 := hR.out.sz
 have hp := hR.out.le
 have hcap := hR.out.own.cap
 obtain ⟨q, Hq⟩ : ∃ q, q = p + S := ⟨_, rfl⟩
 obtain ⟨r, Hr⟩ : ∃ r, r = q + N := ⟨_, rfl⟩
 obtain ⟨t, Ht⟩ : ∃ t, t = n - p := ⟨_, rfl⟩
 obtain ⟨u, Hu⟩ : ∃ u, u = t - S := ⟨_, rfl⟩
 have eq : (p : Int) + (S : Int) = (q : Int) := by omega
 have er' : (q : Int) + (N : Int) = (r : Int) := by omega
 have eu : (t : Int) - (S : Int) = (u : Int) := by omega
 have hq : q <= r := by omega
 have hr : r <= n := by omega
 have i2 : ¬ ((u : Int) < (N : Int)) := by omega
 have i1 : ¬ (z < (N : Int)) := by omega
 have bS : S <= 140737488352256 := by omega
 have bN : N <= 140737488352256 := by omega
 have ht : t <= 140737488352256 := by omega
 have hqn : q <= 140737488352256 := by omega
 have hrn : r <= 140737488352256 := by omega
 have hrc : r <= c := by omega
 have HT : Hid (n - p = t) := Ht.symm
 have HQ : Hid (p + S = q /\ q + N = r /\ r - q = N) := ⟨Hq.symm, Hr.symm, by omega⟩
 rw [HQ.out.1, HQ.out.2.1]
 clear Hq Hr Ht Hu hf
 go_enter Tryd.func88, Tryd.ntmps88
 go_upto_region 2 with (first
  | (go_at_call 77; refine (left_n hR).mono ?_; rintro e w1 ⟨a1, c1, rfl, H1⟩
     have R1 : Hid (Rdr w1 g B a n c l p /\ Wfr w w1 g none /\ Sln w1 a1 (n - p) (l.drop p)) := by
      obtain ⟨j, hj⟩ := H1.out.2
      rw [hj]
      exact ⟨hR.out.drewN j, wfr_drewN w g j, H1.out.1.drewN j⟩
     have S1 : Hid (Sln w1 a1 (n - p) (l.drop p)) := R1.out.2.2)
  | (go_at_call 85; refine (numberAt_n S1 hN).mono ?_; rintro e w2 ⟨rfl, H2⟩))
 have R2 : Hid (Rdr w2 g B a n c l p) := by obtain ⟨j, hj⟩ := H2.out; rw [hj]; exact R1.out.1.drewN j
 have F2 : Hid (Wfr w w2 g none) := by obtain ⟨j, hj⟩ := H2.out; rw [hj]; exact R1.out.2.1.none_trans (wfr_drewN _ _ _)
 clear R1 H1 H2
 go_upto_region 4 with (first
  | (go_at_call 68; refine (lft_n R2).mono ?_; rintro e w3 ⟨rfl, H3⟩; rw [HT.out]))
 have R3 : Hid (Rdr w3 g B a n c l p) := by obtain ⟨j, hj⟩ := H3.out; rw [hj]; exact R2.out.drewN j
 have F3 : Hid (Wfr w w3 g none) := by obtain ⟨j, hj⟩ := H3.out; rw [hj]; exact F2.out.none_trans (wfr_drewN _ _ _)
 have d1 := R3.out.c1
 have f1 : w3.frozen? ⟨g, 1, none⟩ = false := fz R3.out.blk 1
 obtain ⟨w4, W4⟩ := nm (w3.setCell ⟨g, 1, none⟩ (.int .i64 (r : Int)))
 have R4 : Hid (Rdr w4 g B a n c l r) := by rw [<- W4.out]; exact (R3.out.go hr).1
 have F4 : Hid (Wfr w w4 g none) := by rw [<- W4.out]; exact F3.out.none_trans (R3.out.go hr).2
 clear H3 R2 F2
 go_upto_region 6 with (fail)
 rw [W4.out]
 have g0 := R4.out.c0
 have g1 := R4.out.c1
 have S4 : Hid (Sln w4 (if c = q then a else a.map (·.add q)) (r - q) ((l.drop q).take N)) := by
  have h1 := slice_from (R4.out.own.sln h3) (Nat.le_trans hq hr) hcap
  have h2 := h1.take (k := r - q) (by omega)
  rw [HQ.out.2.2] at h2 ⊢
  exact h2
 have Z4 : Hid ((if c = q then a else a.map (·.add q)) = none -> c - q = 0) := by
  intro h1
  by_cases hcq : c = q
  . omega
  . rw [if_neg hcq] at h1
    have := R4.out.own.cap0 (by simpa using h1)
    omega
 have FIN : Hid (∀ j, r - q = N /\ Sln (w4.drewN j) (if c = q then a else a.map (·.add q)) (r - q) ((l.drop q).take N) /\ ((if c = q then a else a.map (·.add q)) = none -> c - q = 0) /\ Rdr (w4.drewN j) g B a n c l r /\ Wfr w (w4.drewN j) g none) :=
  fun j => ⟨HQ.out.2.2, S4.out.drewN j, Z4.out, R4.out.drewN j, F4.out.none_trans (wfr_drewN _ _ _)⟩
 clear d1 f1 R3 F3 R4 F4 S4 Z4 W4
 go_wp2
 go_quiet (fail)
 go_wp2
 all_goals
  go_ret2
  first
   | exact ⟨_, _, _, rfl, by have := FIN.out nq; rw [if_pos (by assumption)] at this; exact this⟩
   | exact ⟨_, _, _, rfl, by have := FIN.out nq; rw [if_neg (by assumption)] at this; exact this⟩
   | exact ⟨_, _, _, rfl, by have hh : c = q := by assumption
                             have := FIN.out nq; rw [if_pos hh] at this; (try rw [hh, Nat.sub_self] at this); exact this⟩
theorem drew_add {w w1 w2 : World} (h1 : ∃ j, w1 = w.drewN j) (h2 : ∃ j, w2 = w1.drewN j) : ∃ j, w2 = w.drewN j := by
 obtain ⟨i, hi⟩ := h1
 obtain ⟨j, hj⟩ := h2
 exact ⟨i + j, by rw [hj, hi]; simp [go_sem]⟩
set_option maxHeartbeats 1000000 in
theorem piece_cut {w : World} {g B : Nat} {M : Nat -> Prop} {a : Option Addr} {n c : Nat} {l : List Nat} {p N S : Nat} {z : Int} {E : Nat -> Addr} (hR : Hid (Rdr w g B a n c l p)) (hN : Hid (nat 9 (l.drop p) 0 0 = (N, S, false))) (hE : Hid (Sent w M E)) (hM : M 1) :
  Calls Tryd.prog 88 #[.pointer (some ⟨g, 0, none⟩),.int .i64 z] w fun e w' => e = .returned (.tuple #[.slice none 0 0, .iface 142 (.pointer (some (E 1)))]) /\ Hid (∃ j, w' = w.drewN j) := by
 go_enter Tryd.func88, Tryd.ntmps88
 go_upto_region 2 with (first
  | (go_at_call 77; refine (left_n hR).mono ?_; rintro e w1 ⟨a1, c1, rfl, H1⟩
     have S1 : Hid (Sln w1 a1 (n - p) (l.drop p)) := by
      obtain ⟨j, hj⟩ := H1.out.2
      rw [hj]
      exact H1.out.1.drewN j)
  | (go_at_call 85; refine (numberAt_n S1 hN).mono ?_; rintro e w2 ⟨rfl, H2⟩))
 have D2 : Hid (∃ j, w2 = w.drewN j) := drew_add H1.out.2 H2.out
 have ce : w2.cell? ⟨1, 0, none⟩ = some (.iface 142 (.pointer (some (E 1)))) := by obtain ⟨j, hj⟩ := D2.out; rw [hj, cell_drewN]; exact hE.out.c 1 hM
 have D3 : Hid (∀ i, ∃ j, w2.drewN i = w.drewN j) := fun i => drew_add D2.out ⟨i, rfl⟩
 clear H1 H2 D2
 go_wp2
 go_quiet (fail)
 go_wp2
 go_ret2
 exact ⟨rfl, D3.out _⟩
set_option maxHeartbeats 1000000 in
theorem piece_few {w : World} {g B : Nat} {M : Nat -> Prop} {a : Option Addr} {n c : Nat} {l : List Nat} {p N S : Nat} {z : Int} {E : Nat -> Addr} (hR : Hid (Rdr w g B a n c l p)) (hN : Hid (nat 9 (l.drop p) 0 0 = (N, S, true))) (hz : (N : Int) <= z) (hz2 : z <= 9223372036854775807) (hf : n < p + S + N) (hE : Hid (Sent w M E)) (hM : M 1) :
  Calls Tryd.prog 88 #[.pointer (some ⟨g, 0, none⟩),.int .i64 z] w fun e w' => e = .returned (.tuple #[.slice none 0 0, .iface 142 (.pointer (some (E 1)))]) /\ Hid (∃ j, w' = w.drewN j) := by
 have hb := nat_bound 9 (l.drop p) 0 0 (by simp) (by rw [hN.out])
 rw [hN.out] at hb
 have hp := hR.out.le
 have hS : p + S <= n := by
  have h1 := hb.2.2.1
  have h2 := hR.out.own.len
  simp only [List.length_drop] at h1
  omega
 have h3 := hR.out.sz
 obtain ⟨t, Ht⟩ : ∃ t, t = n - p := ⟨_, rfl⟩
 obtain ⟨u, Hu⟩ : ∃ u, u = t - S := ⟨_, rfl⟩
 have eu : (t : Int) - (S : Int) = (u : Int) := by omega
 have i2 : (u : Int) < (N : Int) := by omega
 have i1 : ¬ (z < (N : Int)) := by omega
 have bS : S <= 140737488352256 := by omega
 have ht : t <= 140737488352256 := by omega
 have HT : Hid (n - p = t) := Ht.symm
 clear Ht Hu hf hb hS
 go_enter Tryd.func88, Tryd.ntmps88
 go_upto_region 2 with (first
  | (go_at_call 77; refine (left_n hR).mono ?_; rintro e w1 ⟨a1, c1, rfl, H1⟩
     have S1 : Hid (Sln w1 a1 (n - p) (l.drop p)) := by
      obtain ⟨j, hj⟩ := H1.out.2
      rw [hj]
      exact H1.out.1.drewN j)
  | (go_at_call 85; refine (numberAt_n S1 hN).mono ?_; rintro e w2 ⟨rfl, H2⟩))
 have D2 : Hid (∃ j, w2 = w.drewN j) := drew_add H1.out.2 H2.out
 have R2 : Hid (Rdr w2 g B a n c l p) := by obtain ⟨j, hj⟩ := D2.out; rw [hj]; exact hR.out.drewN j
 clear H1 H2
 go_upto_region 3 with (first
  | (go_at_call 68; refine (lft_n R2).mono ?_; rintro e w3 ⟨rfl, H3⟩; rw [HT.out]))
 have D3 : Hid (∃ j, w3 = w.drewN j) := drew_add D2.out H3.out
 have ce : w3.cell? ⟨1, 0, none⟩ = some (.iface 142 (.pointer (some (E 1)))) := by obtain ⟨j, hj⟩ := D3.out; rw [hj, cell_drewN]; exact hE.out.c 1 hM
 have D4 : Hid (∀ i, ∃ j, w3.drewN i = w.drewN j) := fun i => drew_add D3.out ⟨i, rfl⟩
 clear H3 D2 D3 R2
 go_wp2
 go_quiet (fail)
 go_wp2
 go_ret2
 exact ⟨rfl, D4.out _⟩
set_option maxHeartbeats 1000000 in
theorem rtext_ok {w : World} {g B : Nat} {a : Option Addr} {n c : Nat} {l : List Nat} {p N S : Nat} {z : Int} (hR : Hid (Rdr w g B a n c l p)) (hN : Hid (nat 9 (l.drop p) 0 0 = (N, S, true))) (hz : (N : Int) <= z) (hz2 : z <= 9223372036854775807) (hf : p + S + N <= n) :
  Calls Tryd.prog 104 #[.pointer (some ⟨g, 0, none⟩),.int .i64 z] w fun e w' => e = .returned (.tuple #[.string (spell ((l.drop (p + S)).take N)), .nilIface]) /\ Hid (Rdr w' g B a n c l (p + S + N) /\ Wfr w w' g none) := by
 go_enter Tryd.func104, Tryd.ntmps104
 go_upto_region 2 with (first
  | (go_at_call 88; refine (piece_ok hR hN hz hz2 hf).mono ?_; rintro e w1 ⟨a1, m1, c1, rfl, H1⟩))
 have CV := conv_n (k := c1) (show Hid (Sln w1 a1 m1 ((l.drop (p + S)).take N)) from H1.out.2.1)
 go_wp2
 go_ret2
 exact ⟨rfl, H1.out.2.2.2⟩
theorem empty_sln (w : World) : Sln w none 0 [] := ⟨rfl, by simp, by simp, .inl rfl⟩
set_option maxHeartbeats 1000000 in
theorem rbytes_ok {w : World} {g B : Nat} {a : Option Addr} {n c : Nat} {l : List Nat} {p N S : Nat} {z : Int} (hR : Hid (Rdr w g B a n c l p)) (hN : Hid (nat 9 (l.drop p) 0 0 = (N, S, true))) (hz : (N : Int) <= z) (hz2 : z <= 9223372036854775807) (hf : p + S + N <= n) :
  Calls Tryd.prog 76 #[.pointer (some ⟨g, 0, none⟩),.int .i64 z] w fun e w' => ∃ a' m c', e = .returned (.tuple #[.slice a' m c', .nilIface]) /\ Hid (Own w' w.heap.size a' m c' ((l.drop (p + S)).take N) /\ Rdr w' g B a n c l (p + S + N) /\ Wfr w w' g none /\ m = N) := by
 go_enter Tryd.func76, Tryd.ntmps76
 go_upto_region 2 with (first
  | (go_at_call 88; refine (piece_ok hR hN hz hz2 hf).mono ?_; rintro e w1 ⟨a1, m1, c1, rfl, H1⟩))
 have S1 : Hid (Sln w1 a1 m1 ((l.drop (p + S)).take N)) := H1.out.2.1
 have Z1 : Hid (a1 = none -> c1 = 0) := H1.out.2.2.1
 go_wp2_with (first
  | (go_at_call 48; refine (clone_n S1 Z1).mono ?_; rintro e w2 ⟨a2, c2, rfl, H2⟩))
 go_ret2
 have f2 : Wfr w1 w2 g none := ⟨H2.out.2.os, H2.out.2.tape, H2.out.2.output, H2.out.2.size, fun k hk _ _ => H2.out.2.block k hk⟩
 exact ⟨a2, m1, c2, rfl, H2.out.1.base H1.out.2.2.2.2.size, H1.out.2.2.2.1.below H2.out.2, H1.out.2.2.2.2.none_trans f2, H1.out.1⟩
end Go.Proofs.YtppibcambhmomaaDoor
