import Derived.Test.YtkdgakcmhnadfaaGreatDoorMLe
import Derived.Test.YtkdgakcmhnadfaaGreatDoorMLa
import Derived.Test.YtkdgakcmhnadfaaGreatDoorMKh
/- Lf -/
/- ShelfHarm's walk. -/
namespace Go.Proofs.YtkdgakcmhnadfaaGreatDoor
open Go.ChangeShapes Go.WideShapes Go.ChangeAt Go.RowKit
set_option maxRecDepth 20000
set_option linter.unusedVariables false
set_option linter.unusedSimpArgs false
set_option maxHeartbeats 4000000 in
theorem harm_bad {w : World} {M : Nat} {E : Nat → Addr} (hE : Hid (Env w M E)) (a b c bit : Int) {p : Option Addr} {n cp : Nat} {l : List Nat} (hS : Hid (Sln w p n l)) (hcp : Hid (p = none → cp = 0)) (hnc : n ≤ cp) (hg : Hid (gid a b c = false)) :
    Calls Tryz.prog 6 #[idv a b c, .slice p n cp, .int .i64 bit] w fun e w' => e = .returned (.bool true) ∧ Hid (Below w.heap.size w w') := by
  obtain ⟨gi, HG⟩ : ∃ gi, Hid (w.heap.size = gi) := ⟨_, rfl⟩
  obtain ⟨V, HV⟩ : ∃ V, Hid (w.alloc (.cells #[.int .i64 (a : Int), .int .i64 (b : Int), .int .i64 (c : Int)] 32) = V) := ⟨_, rfl⟩
  have bV : Hid (Below w.heap.size w V) := by rw [← HV.out]; exact alloc1 w _
  have EV : Hid (Env V M E) := hE.out.below bV.out
  have SV : Hid (Sln V p n l) := hS.out.below bV.out
  have v0 : Hid (V.cell? ⟨gi, 0, none⟩ = some (.int .i64 (a : Int))) := by rw [← HV.out, ← HG.out]; show _ = _; simp
  have v1 : Hid (V.cell? ⟨gi, 1, none⟩ = some (.int .i64 (b : Int))) := by rw [← HV.out, ← HG.out]; show _ = _; simp
  have v2 : Hid (V.cell? ⟨gi, 2, none⟩ = some (.int .i64 (c : Int))) := by rw [← HV.out, ← HG.out]; show _ = _; simp
  have n1 : Hid (nodeOk 1 = true) := by show _ = _; decide
  go_enter Tryz.func6, Tryz.ntmps6
  go_upto_region 1 with (fail)
  rw [HV.out, HG.out]
  go_upto_region 4 with (first
    | (go_at_call 8; refine (alive_n EV).mono ?_; rintro e w1 ⟨rfl, H1⟩
       have V1 : Hid (Env w1 M E) := EV.out.below H1.out)
    | (go_at_call 9; refine (shnew_n 1 _ n1).mono ?_; rintro e w2 ⟨g, d, m, rfl, H2⟩
       have F2 : Hid (Sf w1 w2 M E g d m ((1 : Nat) : Int) false (fun _ => none) 0) := ⟨V1.out, H2.out.2.2.2.2.2.1, H2.out.1, H2.out.2.1.dw, H2.out.2.2.2.2.2.2, H2.out.2.2.1, H2.out.2.2.2.1, H2.out.2.2.2.2.1⟩
       have b2 : Hid (Below V.heap.size V w2) := H1.out.trans (H2.out.2.2.2.2.2.1.mono H1.out.size)
       have i0 : w2.cell? ⟨gi, 0, none⟩ = some (.int .i64 (a : Int)) := (b2.out.cell (p := ⟨gi, 0, none⟩) (cell_lt v0.out)).trans v0.out
       have i1 : w2.cell? ⟨gi, 1, none⟩ = some (.int .i64 (b : Int)) := (b2.out.cell (p := ⟨gi, 1, none⟩) (cell_lt v1.out)).trans v1.out
       have i2 : w2.cell? ⟨gi, 2, none⟩ = some (.int .i64 (c : Int)) := (b2.out.cell (p := ⟨gi, 2, none⟩) (cell_lt v2.out)).trans v2.out
       have SS : Hid (Sln w2 p n l) := SV.out.below b2.out
       have B2 : Hid (Below w.heap.size w w2) := bV.out.trans (b2.out.mono bV.out.size)))
  go_wp2_with (go_at_call 14; refine (goodId_n a b c _).mono ?_; rintro e w3 ⟨rfl, H3⟩; rw [hg.out])
  go_ret
  exact ⟨rfl, B2.out.trans (H3.out.mono B2.out.size)⟩
set_option maxHeartbeats 4000000 in
theorem harm_long {w : World} {M : Nat} {E : Nat → Addr} (hE : Hid (Env w M E)) (a b c bit : Int) {p : Option Addr} {n cp : Nat} {l : List Nat} (hS : Hid (Sln w p n l)) (hcp : Hid (p = none → cp = 0)) (hnc : n ≤ cp) (hg : Hid (gid a b c = true)) (hn : 1024 < n) :
    Calls Tryz.prog 6 #[idv a b c, .slice p n cp, .int .i64 bit] w fun e w' => e = .returned (.bool true) ∧ Hid (Below w.heap.size w w') := by
  have hn1 : (1024 : Int) < (n : Int) := by omega
  obtain ⟨gi, HG⟩ : ∃ gi, Hid (w.heap.size = gi) := ⟨_, rfl⟩
  obtain ⟨V, HV⟩ : ∃ V, Hid (w.alloc (.cells #[.int .i64 (a : Int), .int .i64 (b : Int), .int .i64 (c : Int)] 32) = V) := ⟨_, rfl⟩
  have bV : Hid (Below w.heap.size w V) := by rw [← HV.out]; exact alloc1 w _
  have EV : Hid (Env V M E) := hE.out.below bV.out
  have SV : Hid (Sln V p n l) := hS.out.below bV.out
  have v0 : Hid (V.cell? ⟨gi, 0, none⟩ = some (.int .i64 (a : Int))) := by rw [← HV.out, ← HG.out]; show _ = _; simp
  have v1 : Hid (V.cell? ⟨gi, 1, none⟩ = some (.int .i64 (b : Int))) := by rw [← HV.out, ← HG.out]; show _ = _; simp
  have v2 : Hid (V.cell? ⟨gi, 2, none⟩ = some (.int .i64 (c : Int))) := by rw [← HV.out, ← HG.out]; show _ = _; simp
  have n1 : Hid (nodeOk 1 = true) := by show _ = _; decide
  go_enter Tryz.func6, Tryz.ntmps6
  go_upto_region 1 with (fail)
  rw [HV.out, HG.out]
  go_upto_region 4 with (first
    | (go_at_call 8; refine (alive_n EV).mono ?_; rintro e w1 ⟨rfl, H1⟩
       have V1 : Hid (Env w1 M E) := EV.out.below H1.out)
    | (go_at_call 9; refine (shnew_n 1 _ n1).mono ?_; rintro e w2 ⟨g, d, m, rfl, H2⟩
       have F2 : Hid (Sf w1 w2 M E g d m ((1 : Nat) : Int) false (fun _ => none) 0) := ⟨V1.out, H2.out.2.2.2.2.2.1, H2.out.1, H2.out.2.1.dw, H2.out.2.2.2.2.2.2, H2.out.2.2.1, H2.out.2.2.2.1, H2.out.2.2.2.2.1⟩
       have b2 : Hid (Below V.heap.size V w2) := H1.out.trans (H2.out.2.2.2.2.2.1.mono H1.out.size)
       have i0 : w2.cell? ⟨gi, 0, none⟩ = some (.int .i64 (a : Int)) := (b2.out.cell (p := ⟨gi, 0, none⟩) (cell_lt v0.out)).trans v0.out
       have i1 : w2.cell? ⟨gi, 1, none⟩ = some (.int .i64 (b : Int)) := (b2.out.cell (p := ⟨gi, 1, none⟩) (cell_lt v1.out)).trans v1.out
       have i2 : w2.cell? ⟨gi, 2, none⟩ = some (.int .i64 (c : Int)) := (b2.out.cell (p := ⟨gi, 2, none⟩) (cell_lt v2.out)).trans v2.out
       have SS : Hid (Sln w2 p n l) := SV.out.below b2.out
       have B2 : Hid (Below w.heap.size w w2) := bV.out.trans (b2.out.mono bV.out.size)))
  go_wp2_with (go_at_call 14; refine (goodId_n a b c _).mono ?_; rintro e w3 ⟨rfl, H3⟩; rw [hg.out])
  go_ret
  exact ⟨rfl, B2.out.trans (H3.out.mono B2.out.size)⟩
set_option maxHeartbeats 4000000 in
theorem harm_ok {w : World} {M : Nat} {E : Nat → Addr} (hE : Hid (Env w M E)) (s1 s2 s3 : Nat) (bit : Int) (hb1 : -9223372036854775808 ≤ bit) (hb2 : bit ≤ 9223372036854775807) {p : Option Addr} {n cp : Nat} {l : List Nat} (hS : Hid (Sln w p n l)) (hcp : Hid (p = none → cp = 0)) (hnc : n ≤ cp) (hg : Hid (gid s1 s2 s3 = true)) (hn : n ≤ 1024) :
    Calls Tryz.prog 6 #[idv s1 s2 s3, .slice p n cp, .int .i64 bit] w fun e w' => e = .returned (.bool true) ∧ Hid (Below w.heap.size w w') := by
  have hn1 : ¬ ((1024 : Int) < (n : Int)) := by omega
  have OK : Hid (okN [1, (s1 : Int), s2, s3, ((1 : Nat) : Int), (n : Nat), 0] = true) := ok_t hg.out (by omega) (by omega) (by omega) (by omega)
  obtain ⟨F, HF⟩ : ∃ F, Hid (frameL [1, s1, s2, s3, 1, n, n] l = F) := ⟨_, rfl⟩
  have GS : Hid (getS F = ([s1, s2, s3, 1, n], l, 0)) := by
    rw [← HF.out]
    have h := (getS_there (a := s1) (b := s2) (c := s3) (d := 1) (e := n) (l := l) OK.out (by have := hS.out.len; omega)).1
    rw [← hS.out.len] at h
    exact h
  have G0 : Hid ((getS F).2.2 = 0) := by rw [GS.out]; rfl
  have G1 : Hid ((getS F).1 = [s1, s2, s3, 1, n]) := by rw [GS.out]; rfl
  have GI : Hid (gdI s1 s2 s3) := by
    have h := of_decide_eq_true hg.out
    exact ⟨decide_eq_true (by omega), decide_eq_true (by omega), decide_eq_true (by omega)⟩
  obtain ⟨gi, HG⟩ : ∃ gi, Hid (w.heap.size = gi) := ⟨_, rfl⟩
  obtain ⟨V, HV⟩ : ∃ V, Hid (w.alloc (.cells #[.int .i64 (s1 : Int), .int .i64 (s2 : Int), .int .i64 (s3 : Int)] 32) = V) := ⟨_, rfl⟩
  have bV : Hid (Below w.heap.size w V) := by rw [← HV.out]; exact alloc1 w _
  have EV : Hid (Env V M E) := hE.out.below bV.out
  have SV : Hid (Sln V p n l) := hS.out.below bV.out
  have v0 : Hid (V.cell? ⟨gi, 0, none⟩ = some (.int .i64 (s1 : Int))) := by rw [← HV.out, ← HG.out]; show _ = _; simp
  have v1 : Hid (V.cell? ⟨gi, 1, none⟩ = some (.int .i64 (s2 : Int))) := by rw [← HV.out, ← HG.out]; show _ = _; simp
  have v2 : Hid (V.cell? ⟨gi, 2, none⟩ = some (.int .i64 (s3 : Int))) := by rw [← HV.out, ← HG.out]; show _ = _; simp
  have n1 : Hid (nodeOk 1 = true) := by show _ = _; decide
  go_enter Tryz.func6, Tryz.ntmps6
  go_upto_region 1 with (fail)
  rw [HV.out, HG.out]
  go_upto_region 4 with (first
    | (go_at_call 8; refine (alive_n EV).mono ?_; rintro e w1 ⟨rfl, H1⟩
       have V1 : Hid (Env w1 M E) := EV.out.below H1.out)
    | (go_at_call 9; refine (shnew_n 1 _ n1).mono ?_; rintro e w2 ⟨g, d, m, rfl, H2⟩
       have F2 : Hid (Sf w1 w2 M E g d m ((1 : Nat) : Int) false (fun _ => none) 0) := ⟨V1.out, H2.out.2.2.2.2.2.1, H2.out.1, H2.out.2.1.dw, H2.out.2.2.2.2.2.2, H2.out.2.2.1, H2.out.2.2.2.1, H2.out.2.2.2.2.1⟩
       have b2 : Hid (Below V.heap.size V w2) := H1.out.trans (H2.out.2.2.2.2.2.1.mono H1.out.size)
       have i0 : w2.cell? ⟨gi, 0, none⟩ = some (.int .i64 (s1 : Int)) := (b2.out.cell (p := ⟨gi, 0, none⟩) (cell_lt v0.out)).trans v0.out
       have i1 : w2.cell? ⟨gi, 1, none⟩ = some (.int .i64 (s2 : Int)) := (b2.out.cell (p := ⟨gi, 1, none⟩) (cell_lt v1.out)).trans v1.out
       have i2 : w2.cell? ⟨gi, 2, none⟩ = some (.int .i64 (s3 : Int)) := (b2.out.cell (p := ⟨gi, 2, none⟩) (cell_lt v2.out)).trans v2.out
       have SS : Hid (Sln w2 p n l) := SV.out.below b2.out
       have B2 : Hid (Below w.heap.size w w2) := bV.out.trans (b2.out.mono bV.out.size)))
  go_upto_region 7 with (first
    | (go_at_call 14; refine (goodId_n s1 s2 s3 _).mono ?_; rintro e w3 ⟨rfl, H3⟩; rw [hg.out]
       have F3 : Hid (Sf w1 w3 M E g d m ((1 : Nat) : Int) false (fun _ => none) 0) := F2.out.below H3.out
       have S3 : Hid (Sln w3 p n l) := SS.out.below H3.out
       have B3 : Hid (Below w.heap.size w w3) := B2.out.trans (H3.out.mono B2.out.size)
       have j0 : w3.cell? ⟨gi, 0, none⟩ = some (.int .i64 (s1 : Int)) := (H3.out.cell (p := ⟨gi, 0, none⟩) (cell_lt i0)).trans i0
       have j1 : w3.cell? ⟨gi, 1, none⟩ = some (.int .i64 (s2 : Int)) := (H3.out.cell (p := ⟨gi, 1, none⟩) (cell_lt i1)).trans i1
       have j2 : w3.cell? ⟨gi, 2, none⟩ = some (.int .i64 (s3 : Int)) := (H3.out.cell (p := ⟨gi, 2, none⟩) (cell_lt i2)).trans i2
       clear i0 i1 i2)
    | (go_at_call 15; refine (refPut_n s1 s2 s3 1 n n cp p l S3 hcp hnc OK hn).mono ?_; rintro e w4 ⟨af, N, cf, rfl, H4⟩
       rw [HF.out] at H4
       have F4 : Hid (Sf w1 w4 M E g d m ((1 : Nat) : Int) false (fun _ => none) 0) := F3.out.below H4.out.2.2
       have S4 : Hid (Sln w4 af N F) := H4.out.1.sln (by have := H4.out.2.1; omega)
       have Z4 : Hid (af = none → cf = 0) := H4.out.1.cap0
       have hnc4 : N ≤ cf := H4.out.1.cap
       have DM : Hid ((w1.heap.size ≤ d ∧ d < w2.heap.size) ∧ w1.heap.size ≤ m ∧ m < w2.heap.size) := ⟨⟨F2.out.ge.2.1, F2.out.dv.lt.1⟩, F2.out.ge.2.2, F2.out.dv.lt.2⟩
       have P4 : Hid (∀ q, blkOf af = some q → q ≠ d ∧ q ≠ m) := fun q hq => by
         have h1 := H4.out.1.ge q hq
         have h2 := DM.out
         have h3 := H3.out.size
         omega
       have gdm : Hid (gi ≠ d ∧ gi ≠ m) := by
         have h1 := cell_lt v0.out
         have h2 := DM.out
         have h3 := H1.out.size
         exact ⟨by omega, by omega⟩
       have k0 : Hid (0 < 512) := by show 0 < 512; omega
       have B4 : Hid (Below w.heap.size w w4) := B3.out.trans (H4.out.2.2.mono B3.out.size)
       have N4 : Hid (N ≤ 4000) := H4.out.2.1
       have k1 : Hid (w4.cell? ⟨gi, 0, none⟩ = some (.int .i64 (s1 : Int))) := (H4.out.2.2.cell (p := ⟨gi, 0, none⟩) (cell_lt j0)).trans j0
       have k2 : Hid (w4.cell? ⟨gi, 1, none⟩ = some (.int .i64 (s2 : Int))) := (H4.out.2.2.cell (p := ⟨gi, 1, none⟩) (cell_lt j1)).trans j1
       have k3 : Hid (w4.cell? ⟨gi, 2, none⟩ = some (.int .i64 (s3 : Int))) := (H4.out.2.2.cell (p := ⟨gi, 2, none⟩) (cell_lt j2)).trans j2
       clear j0 j1 j2))
  obtain ⟨st, HT⟩ : ∃ st, Hid (nmS 116 s1 s2 s3 = st) := ⟨_, rfl⟩
  obtain ⟨fi, HI⟩ : ∃ fi, Hid (nmS 98 s1 s2 s3 = fi) := ⟨_, rfl⟩
  obtain ⟨f5, Hf5⟩ : ∃ f5 : Fl, Hid ((⟨spell F, spell F, true⟩ : Fl) = f5) := ⟨_, rfl⟩
  have FB : Hid (bytesOf (spell F) = F) := bytesOf_spell S4.out.lt
  have FZ : Hid (f5.b.size = N) := by
    have h1 := bytesOf_length (spell F)
    rw [FB.out, ← S4.out.len] at h1
    rw [← Hf5.out]
    exact h1.symm
  have NP : Hid (0 < N) := by
    have h1 := S4.out.len
    cases hF : F with
    | nil =>
      exfalso
      have h2 := G0.out
      rw [hF] at h2
      exact absurd h2 (by decide)
    | cons x r => rw [hF] at h1; simp at h1; show 0 < N; omega
  have VS : Hid (∀ t, upd (upd (fun _ => none) st none) fi (some f5) t = if t = fi then some f5 else none) := fun t => by
    unfold upd
    split
    · rfl
    · split <;> rfl
  have Hz0 : Hid (0 < f5.b.size) := by show _ < _; rw [FZ.out]; exact NP.out
  have Hz1 : Hid (f5.b.size ≤ 140737488352256) := by show _ ≤ _; rw [FZ.out]; have := N4.out; omega
  go_upto_region 9 with (first
    | (go_at_call 16; refine (put_v F4 k0 S4 Z4 hnc4 P4 G0 G1).mono ?_; rintro e w5 ⟨rfl, H5⟩
       rw [HT.out, HI.out, Hf5.out] at H5
       have F5 : Hid (Sf w1 w5 M E g d m ((1 : Nat) : Int) false (upd (upd (fun _ => none) st none) fi (some f5)) 1) := H5.out.1
       have C5 : Hid (ChD w4 w5 d m) := H5.out.2
       have L5 : Hid (Shl w5 g ((1 : Nat) : Int) d) := F5.out.shl
       have D5 : Hid (Dw w5 d m (upd (upd (fun _ => none) st none) fi (some f5)) 1 false) := F5.out.dv
       clear H5)
    | (go_at_call 17; refine (drive_n L5).mono ?_; rintro e w0 ⟨rfl, h00⟩; rw [h00]; clear h00)
    | (go_at_call 23; refine (flip_one D5 bit hb1 hb2 VS Hz0 Hz1).mono ?_; rintro e w6 ⟨p6, rfl, H6⟩
       have F6 : Hid (Sf w1 w6 M E g d m ((1 : Nat) : Int) false (upd (upd (upd (fun _ => none) st none) fi (some f5)) fi (some (tn f5 p6))) 1) := F5.out.ch H6.out.2.2 H6.out.2.1
       have C6 : Hid (ChD w4 w6 d m) := C5.out.trans H6.out.2.2
       have HP : Hid (p6 < 8 * f5.b.size) := H6.out.1
       clear H6))
  have S6 : Hid (Sln w6 af N F) := S4.out.ch C6.out P4.out
  have m0 : w6.cell? ⟨gi, 0, none⟩ = some (.int .i64 (s1 : Int)) := (C6.out.cell (cell_lt k1.out) gdm.out).trans k1.out
  have m1 : w6.cell? ⟨gi, 1, none⟩ = some (.int .i64 (s2 : Int)) := (C6.out.cell (cell_lt k2.out) gdm.out).trans k2.out
  have m2 : w6.cell? ⟨gi, 2, none⟩ = some (.int .i64 (s3 : Int)) := (C6.out.cell (cell_lt k3.out) gdm.out).trans k3.out
  have B6 : Hid (Below w.heap.size w w6) := B4.out.trans (C6.out.below (B := w.heap.size) (by have := DM.out; have := bV.out.size; have := H1.out.size; omega) (by have := DM.out; have := bV.out.size; have := H1.out.size; omega) B4.out.size)
  obtain ⟨G, HGG⟩ : ∃ G, Hid (tnL F p6 = G) := ⟨_, rfl⟩
  obtain ⟨f6, Hf6⟩ : ∃ f6 : Fl, Hid (tn f5 p6 = f6) := ⟨_, rfl⟩
  have GB : Hid (f6.b = spell G ∧ bytesOf f6.b = G ∧ f6.b.size ≤ 140737488352256 ∧ G ≠ F ∧ (∀ x ∈ G, x < 256)) := by
    have e1 : bytesOf f5.b = F := by rw [← Hf5.out]; exact FB.out
    have e2 : f6.b = spell G := by rw [← Hf6.out, ← HGG.out]; show spell (tnL (bytesOf f5.b) p6) = _; rw [e1]
    have e3 : ∀ x ∈ G, x < 256 := by rw [← HGG.out]; exact tnL_lt S4.out.lt p6
    have e4 : bytesOf f6.b = G := by rw [e2]; exact bytesOf_spell e3
    have e5 : f6.b.size = N := by
      have h1 := bytesOf_length f6.b
      rw [e4, ← HGG.out, tnL_length] at h1
      have h2 := S4.out.len
      omega
    have e6 : G ≠ F := by
      rw [← HGG.out]
      refine tnL_ne ?_
      have h1 := HP.out
      have h2 := FZ.out
      have h3 := S4.out.len
      omega
    exact ⟨e2, e4, by have := N4.out; omega, e6, e3⟩
  have HV6 : Hid ((upd (upd (upd (fun _ => none) st none) fi (some f5)) fi (some f6)) (nmS 98 s1 s2 s3) = some f6) := by
    show _ = _
    rw [HI.out]
    exact upd_same _ _ _
  rw [Hf6.out] at F6
  have hb6 : f6.b.size ≤ 140737488352256 := GB.out.2.2.1
  clear k1 k2 k3
  by_cases hfr : isFr G s1 s2 s3 ((1 : Nat) : Int)
  · have Q0 : Hid ((getS (bytesOf f6.b)).2.2 = 0) := by rw [GB.out.2.1]; exact hfr.1
    obtain ⟨t1, t2, t3, t4, t5, ht, e1, e2, e3, e4⟩ := hfr.2
    obtain rfl : t1 = s1 := by exact_mod_cast e1
    obtain rfl : t2 = s2 := by exact_mod_cast e2
    obtain rfl : t3 = s3 := by exact_mod_cast e3
    obtain rfl : t4 = 1 := by exact_mod_cast e4
    have Q1 : Hid ((getS (bytesOf f6.b)).1 = [t1, t2, t3, 1, t5]) := by rw [GB.out.2.1]; exact ht
    have QG : Hid ((getS G).2.2 = 0 ∧ (getS G).1 = [t1, t2, t3, 1, t5]) := ⟨hfr.1, ht⟩
    have ne : ¬ ((spell G).toList = (spell F).toList) := fun h => by
      rw [ByteArray.toList_eq, ByteArray.toList_eq] at h
      exact GB.out.2.2.2.1 (spell_inj GB.out.2.2.2.2 S4.out.lt (WideShapes.bytes_inj h))
    have NE : Hid (¬ ((spell G).toList = (spell F).toList)) := ne
    clear hfr ht e1 e2 e3 e4
    go_wp2_with (first
      | (go_at_call 20; refine (get_v F6 GI HV6 hb6 Q0 Q1).mono ?_; rintro e w7 ⟨q, nq, cq, rfl, H7⟩
         have S7 : Hid (Sln w7 (some ⟨q, 0, none⟩) nq G) := by have h := H7.out.1; rw [GB.out.2.1] at h; exact h
         have Z7 : Hid ((some (⟨q, 0, none⟩ : Addr)) = none → cq = 0) := fun h => by cases h
         have c7 : nq ≤ cq := H7.out.2.1
         have A7 : Hid (Sln w7 af N F) := S6.out.below H7.out.2.2.2)
      | (go_at_call 24; refine (refget_all S7 Z7 c7).mono ?_; rintro e w8 ⟨a8, n8, c8, rfl, H8⟩
         rw [QG.out.1, QG.out.2]
         simp only [cs, wv, List.map]
         have CVg : ∀ ob, (convert 33 9 (.slice (some ⟨q, 0, none⟩) nq cq)).run Tryz.prog (w8.alloc ob) = .ok (.string (spell G)) (w8.alloc ob) := fun ob => conv_n (show Hid (Sln (w8.alloc ob) _ nq G) from (S7.out.below H8.out.2).below (alloc1 w8 ob))
         have CVf : ∀ ob, (convert 33 9 (.slice af N cf)).run Tryz.prog (w8.alloc ob) = .ok (.string (spell F)) (w8.alloc ob) := fun ob => conv_n (show Hid (Sln (w8.alloc ob) af N F) from (A7.out.below H8.out.2).below (alloc1 w8 ob))))
    go_ret
    have b7 := B6.out.trans (H7.out.2.2.2.mono B6.out.size)
    have b8 := b7.trans (H8.out.2.mono b7.size)
    exact ⟨by simp [NE.out], b8.trans ((alloc1 w8 _).mono b8.size)⟩
  · have Q0 : Hid (¬ isFr (bytesOf f6.b) s1 s2 s3 ((1 : Nat) : Int)) := by rw [GB.out.2.1]; exact hfr
    clear hfr
    go_wp2_with (first
      | (go_at_call 20; refine (get_lost F6 GI HV6 hb6 Q0).mono ?_; rintro e w7 ⟨rfl, H7⟩
         have F7 : Hid (Sf w1 w7 M E g d m ((1 : Nat) : Int) false (upd (upd (upd (fun _ => none) st none) fi (some f5)) fi (some f6)) 1) := F6.out.below H7.out
         have l0 : w7.cell? ⟨gi, 0, none⟩ = some (.int .i64 (s1 : Int)) := (H7.out.cell (p := ⟨gi, 0, none⟩) (cell_lt m0)).trans m0
         have l1 : w7.cell? ⟨gi, 1, none⟩ = some (.int .i64 (s2 : Int)) := (H7.out.cell (p := ⟨gi, 1, none⟩) (cell_lt m1)).trans m1
         have l2 : w7.cell? ⟨gi, 2, none⟩ = some (.int .i64 (s3 : Int)) := (H7.out.cell (p := ⟨gi, 2, none⟩) (cell_lt m2)).trans m2
         have g2 : w7.cell? ⟨2, 0, none⟩ = some (.iface 273 (.pointer (some (E 2)))) := F7.out.here.sent.c 2 ⟨by have := F7.out.env.big; omega, fun _ => by omega⟩
         have q2 := eql_same w7 (E 2))
      | (go_at_call 25; refine (has_lost F7 GI HV6 hb6 Q0).mono ?_; rintro e w8 ⟨rfl, H8⟩))
    go_ret
    have b7 := B6.out.trans (H7.out.mono B6.out.size)
    exact ⟨rfl, b7.trans (H8.out.mono b7.size)⟩
theorem harm_n {w : World} {M : Nat} {E : Nat → Addr} (hE : Hid (Env w M E)) (a b c bit : Int) (hb1 : -9223372036854775808 ≤ bit) (hb2 : bit ≤ 9223372036854775807) {p : Option Addr} {n cp : Nat} {l : List Nat} (hS : Hid (Sln w p n l)) (hcp : Hid (p = none → cp = 0)) (hnc : n ≤ cp) :
    Calls Tryz.prog 6 #[idv a b c, .slice p n cp, .int .i64 bit] w fun e w' => e = .returned (.bool true) ∧ Hid (Below w.heap.size w w') := by
  cases hg : gid a b c with
  | false => exact harm_bad hE a b c bit hS hcp hnc hg
  | true =>
    by_cases hn : n ≤ 1024
    · have h := of_decide_eq_true hg
      obtain ⟨s1, rfl⟩ := Int.eq_ofNat_of_zero_le h.1.1
      obtain ⟨s2, rfl⟩ := Int.eq_ofNat_of_zero_le h.2.1.1
      obtain ⟨s3, rfl⟩ := Int.eq_ofNat_of_zero_le h.2.2.1
      exact harm_ok hE s1 s2 s3 bit hb1 hb2 hS hcp hnc hg hn
    · exact harm_long hE a b c bit hS hcp hnc hg (by omega)
end Go.Proofs.YtkdgakcmhnadfaaGreatDoor
