/- plain; HttpBack, for requests whose bytes have room. -/
import Derived.Test.YtemhhlongfabmaaGreatDoorIq
import Derived.Test.YtemhhlongfabmaaGreatDoorIp
namespace Go.Proofs.YtemhhlongfabmaaGreatDoor
open Go.ChangeShapes Go.WideShapes Go.ChangeAt Go.RowKit
set_option maxRecDepth 20000
set_option linter.unusedVariables false
set_option linter.unusedSimpArgs false
def plnP (p : PR) (m t : ByteArray) (fs : List Fl) (body : List Nat) : Bool := match p with
  | .got m' t' fs' body' _ => samR m' t' m t fs' fs body' body
  | _ => false
def plnB (m t : ByteArray) (fs : List Fl) (body : List Nat) : Bool := plnP (prs (rqL m t fs body)) m t fs body
theorem rqL_lt {m t : ByteArray} {fs : List Fl} {body : List Nat} (hb : ∀ x ∈ body, x < 256) : ∀ x ∈ rqL m t fs body, x < 256 := fun x hx => by
  unfold rqL lnsB at hx
  simp only [List.mem_append, List.mem_flatMap, List.mem_cons, List.not_mem_nil, or_false] at hx
  rcases hx with ((hx | ⟨f, _, hx⟩) | hx) | hx
  · exact bo_lt _ x hx
  · exact bo_lt _ x hx
  · omega
  · exact hb x hx
theorem pln_yes {m t : ByteArray} {fs : List Fl} {body : List Nat} (hb : ∀ x ∈ body, x < 256) (h : plnB m t fs body = true) : prs (rqL m t fs body) = .got m t fs body (rqL m t fs body).length := by
  unfold plnB at h
  cases hp : prs (rqL m t fs body) with
  | bad g => rw [hp] at h; cases h
  | wait => rw [hp] at h; cases h
  | got m' t' fs' body' num =>
    rw [hp] at h
    simp only [plnP, samR, Bool.and_eq_true, decide_eq_true_eq] at h
    obtain ⟨rfl, rfl, rfl, rfl⟩ := h
    exact congrArg (PR.got m' t' fs' body') (back_len (rqL_lt hb) hp)
set_option maxHeartbeats 4000000 in
theorem plain_n {m t : ByteArray} {fa : Option Addr} {fn fc : Nat} {fs : List Fl} {ba : Option Addr} {bn bc : Nat} {body : List Nat} {w : World} (hQ : Hid (Rq w fa fn ba bn fs body)) (hbc : Hid (ba = none → bc = 0)) (hZ : Hid ((rqL m t fs body).length ≤ 140737488354304)) :
    Calls Tryz.prog 24 #[.agg #[.string m, .string t, .slice fa fn fc, .slice ba bn bc]] w fun e w' => e = .returned (.bool (plnB m t fs body)) ∧ Hid (Below w.heap.size w w') := by
  obtain ⟨g, HG⟩ : ∃ q, Hid (w.heap.size = q) := ⟨_, rfl⟩
  obtain ⟨w1, H1⟩ : ∃ x, Hid (w.alloc (.cells #[.string m, .string t, .slice fa fn fc, .slice ba bn bc] 27) = x) := ⟨_, rfl⟩
  have X1 : Hid (Bx w w1 g 27 #[.string m, .string t, .slice fa fn fc, .slice ba bn bc]) := by rw [← H1.out, ← HG.out]; exact Bx.new w w 27 _ (Below.refl _ _)
  have Q1 : Hid (Rq w1 fa fn ba bn fs body) := hQ.out.below X1.out.bel
  obtain ⟨p, HP⟩ : ∃ p, Hid (prs (rqL m t fs body) = p) := ⟨_, rfl⟩
  obtain ⟨L, HL⟩ : ∃ L, Hid (rqL m t fs body = L) := ⟨_, rfl⟩
  have RQ : Hid (Calls Tryz.prog 25 #[.agg #[.string m, .string t, .slice fa fn fc, .slice ba bn bc]] w1 fun e w' => ∃ a n c, e = .returned (.slice a n c) ∧ Hid (Om w' w1.heap.size a n c L ∧ Below w1.heap.size w1 w')) := by
    have := refreq_n (m := m) (t := t) (fc := fc) Q1.out.f Q1.out.b hbc hZ
    rw [HL.out] at this
    exact this
  have PL : Hid (plnB m t fs body = plnP p m t fs body) := (by unfold plnB; rw [HP.out] : plnB m t fs body = plnP p m t fs body)
  have GN : Hid (∀ m' t' fs' body' num, p = .got m' t' fs' body' num → 0 < num) := fun m' t' fs' body' num e => by
    rw [e] at HP
    obtain ⟨e', z, hG⟩ := got_of HP.out
    have := hG.len
    omega
  have LZ : Hid (L.length ≤ 140737488354304) := by rw [← HL.out]; exact hZ.out
  rw [HL.out] at HP
  obtain ⟨r0, r1, r2, r3⟩ := box4 X1.out.row
  rw [PL.out]
  clear PL
  cases p with
  | bad g0 =>
    have OM := fun {W : World} {a : Option Addr} {n c : Nat} (h : Om W w1.heap.size a n c L) => h.sln (by rw [h.len]; exact LZ.out)
    have OM : Hid (∀ {W : World} {a : Option Addr} {n c : Nat}, Om W w1.heap.size a n c L → Sln W a n L) := OM
    have RA : Hid (∀ {a : Option Addr} {n c : Nat} {W : World}, Hid (Sln W a n L) → n ≤ c → Calls Tryz.prog 12 #[.slice a n c] W fun e w' => e = .returned (.tuple #[.agg #[.string { data := #[] }, .string { data := #[] }, .slice none 0 0, .slice none 0 0], .int .i64 0, .int .i64 (if g0 = 0 then 11 else 13)]) ∧ Hid (Below W.heap.size W w')) := fun {a n c W} h1 h3 => by
      have := refparse_n h1 h3
      rw [HP.out] at this
      exact this
    obtain ⟨en, HE⟩ : ∃ q : Int, Hid ((if g0 = 0 then (11 : Int) else 13) = q) := ⟨_, rfl⟩
    rw [HE.out] at RA
    have e0 : (en == 0) = false := by rw [← HE.out]; split <;> rfl
    go_enter Tryz.func24, Tryz.ntmps24
    go_upto_region 2 with (first
      | (go_at_call 25; rw [H1.out]; refine RQ.out.mono ?_; rintro e w2 ⟨a, n, c, rfl, H2⟩
         have S2 : Hid (Sln w2 a n L) := OM.out H2.out.1)
      | (go_at_call 12; refine (RA.out S2 H2.out.1.nc).mono ?_; rintro e w3 ⟨rfl, B3⟩))
    rw [HG.out]
    have X3 : Hid (Bx w w3 g 27 #[.string m, .string t, .slice fa fn fc, .slice ba bn bc]) := (X1.out.below H2.out.2).below B3.out
    obtain ⟨q, HQ⟩ : ∃ q, Hid (w3.heap.size = q) := ⟨_, rfl⟩
    obtain ⟨w4, H4⟩ : ∃ x, Hid (w3.alloc (.cells #[.string { data := #[] }, .string { data := #[] }, .slice none 0 0, .slice none 0 0] 27) = x) := ⟨_, rfl⟩
    rw [H4.out, HQ.out]
    have D34 : Hid (Below w3.heap.size w3 w4) := by rw [← H4.out]; exact alloc1 _ _
    have X4 : Hid (Bx w w4 g 27 #[.string m, .string t, .slice fa fn fc, .slice ba bn bc]) := X3.out.below D34.out
    have Y4 : Hid (Bx w w4 q 27 #[.string { data := #[] }, .string { data := #[] }, .slice none 0 0, .slice none 0 0]) := by rw [← H4.out, ← HQ.out]; exact Bx.new w w3 27 _ X3.out.bel
    clear H4 r0 r1 r2 r3
    go_wp2
    go_ret
    exact ⟨rfl, X4.out.bel⟩
  | wait =>
    have OM := fun {W : World} {a : Option Addr} {n c : Nat} (h : Om W w1.heap.size a n c L) => h.sln (by rw [h.len]; exact LZ.out)
    have OM : Hid (∀ {W : World} {a : Option Addr} {n c : Nat}, Om W w1.heap.size a n c L → Sln W a n L) := OM
    have RA : Hid (∀ {a : Option Addr} {n c : Nat} {W : World}, Hid (Sln W a n L) → n ≤ c → Calls Tryz.prog 12 #[.slice a n c] W fun e w' => e = .returned (.tuple #[.agg #[.string { data := #[] }, .string { data := #[] }, .slice none 0 0, .slice none 0 0], .int .i64 0, .int .i64 0]) ∧ Hid (Below W.heap.size W w')) := fun {a n c W} h1 h3 => by
      have := refparse_n h1 h3
      rw [HP.out] at this
      exact this
    go_enter Tryz.func24, Tryz.ntmps24
    go_upto_region 2 with (first
      | (go_at_call 25; rw [H1.out]; refine RQ.out.mono ?_; rintro e w2 ⟨a, n, c, rfl, H2⟩
         have S2 : Hid (Sln w2 a n L) := OM.out H2.out.1)
      | (go_at_call 12; refine (RA.out S2 H2.out.1.nc).mono ?_; rintro e w3 ⟨rfl, B3⟩))
    rw [HG.out]
    have X3 : Hid (Bx w w3 g 27 #[.string m, .string t, .slice fa fn fc, .slice ba bn bc]) := (X1.out.below H2.out.2).below B3.out
    obtain ⟨q, HQ⟩ : ∃ q, Hid (w3.heap.size = q) := ⟨_, rfl⟩
    obtain ⟨w4, H4⟩ : ∃ x, Hid (w3.alloc (.cells #[.string { data := #[] }, .string { data := #[] }, .slice none 0 0, .slice none 0 0] 27) = x) := ⟨_, rfl⟩
    rw [H4.out, HQ.out]
    have D34 : Hid (Below w3.heap.size w3 w4) := by rw [← H4.out]; exact alloc1 _ _
    have X4 : Hid (Bx w w4 g 27 #[.string m, .string t, .slice fa fn fc, .slice ba bn bc]) := X3.out.below D34.out
    have Y4 : Hid (Bx w w4 q 27 #[.string { data := #[] }, .string { data := #[] }, .slice none 0 0, .slice none 0 0]) := by rw [← H4.out, ← HQ.out]; exact Bx.new w w3 27 _ X3.out.bel
    clear H4 r0 r1 r2 r3
    go_wp2
    go_ret
    exact ⟨rfl, X4.out.bel⟩
  | got m' t' fs' body' num =>
    have OM := fun {W : World} {a : Option Addr} {n c : Nat} (h : Om W w1.heap.size a n c L) => h.sln (by rw [h.len]; exact LZ.out)
    have OM : Hid (∀ {W : World} {a : Option Addr} {n c : Nat}, Om W w1.heap.size a n c L → Sln W a n L) := OM
    have RA : Hid (∀ {a : Option Addr} {n c : Nat} {W : World}, Hid (Sln W a n L) → n ≤ c → Calls Tryz.prog 12 #[.slice a n c] W fun e w' => (∃ fa fn fc ba bn bc, e = .returned (.tuple #[.agg #[.string m', .string t', .slice fa fn fc, .slice ba bn bc], .int .i64 (num : Nat), .int .i64 0]) ∧ Hid (Rq w' fa fn ba bn fs' body' ∧ Own w' W.heap.size ba bn bc body' ∧ bn ≤ 1024)) ∧ Hid (Below W.heap.size W w')) := fun {a n c W} h1 h3 => by
      have := refparse_all h1 h3
      rw [HP.out] at this
      exact this
    have np := GN.out m' t' fs' body' num rfl
    have n1 : (0 : Int) < (num : Int) := by omega
    go_enter Tryz.func24, Tryz.ntmps24
    go_upto_region 2 with (first
      | (go_at_call 25; rw [H1.out]; refine RQ.out.mono ?_; rintro e w2 ⟨a, n, c, rfl, H2⟩
         have S2 : Hid (Sln w2 a n L) := OM.out H2.out.1)
      | (go_at_call 12; refine (RA.out S2 H2.out.1.nc).mono ?_; rintro e w3 ⟨⟨fa2, fn2, fc2, ba2, bn2, bc2, rfl, H3⟩, B3⟩))
    rw [HG.out]
    have X3 : Hid (Bx w w3 g 27 #[.string m, .string t, .slice fa fn fc, .slice ba bn bc]) := (X1.out.below H2.out.2).below B3.out
    obtain ⟨q, HQ⟩ : ∃ q, Hid (w3.heap.size = q) := ⟨_, rfl⟩
    obtain ⟨w4, H4⟩ : ∃ x, Hid (w3.alloc (.cells #[.string m', .string t', .slice fa2 fn2 fc2, .slice ba2 bn2 bc2] 27) = x) := ⟨_, rfl⟩
    rw [H4.out, HQ.out]
    have D34 : Hid (Below w3.heap.size w3 w4) := by rw [← H4.out]; exact alloc1 _ _
    have X4 : Hid (Bx w w4 g 27 #[.string m, .string t, .slice fa fn fc, .slice ba bn bc]) := X3.out.below D34.out
    have Y4 : Hid (Bx w w4 q 27 #[.string m', .string t', .slice fa2 fn2 fc2, .slice ba2 bn2 bc2]) := by rw [← H4.out, ← HQ.out]; exact Bx.new w w3 27 _ X3.out.bel
    clear H4 r0 r1 r2 r3
    obtain ⟨p0, p1, p2, p3⟩ := box4 X4.out.row
    obtain ⟨s0, s1, s2, s3⟩ := box4 Y4.out.row
    have QA : Hid (Rq w4 fa2 fn2 ba2 bn2 fs' body') := H3.out.1.below D34.out
    have QB : Hid (Rq w4 fa fn ba bn fs body) := hQ.out.below X4.out.bel
    have SM := same_n (m := m') (t := t') (m' := m) (t' := t) (fc := fc2) (fc' := fc) (bc := bc2) (bc' := bc) QA QB
    have SM : Hid (Calls Tryz.prog 13 #[.agg #[.string m', .string t', .slice fa2 fn2 fc2, .slice ba2 bn2 bc2], .agg #[.string m, .string t, .slice fa fn fc, .slice ba bn bc]] w4 fun e w' => e = .returned (.bool (samR m' t' m t fs' fs body' body)) ∧ Hid (Below w4.heap.size w4 w')) := SM
    go_wp2_with (go_at_call 13; refine SM.out.mono ?_; rintro e w5 ⟨rfl, B5⟩)
    go_ret
    exact ⟨rfl, X4.out.bel.trans (B5.out.mono X4.out.bel.size)⟩
set_option maxHeartbeats 4000000 in
theorem back_n {m t : ByteArray} {fa : Option Addr} {fn fc : Nat} {fs : List Fl} {ba : Option Addr} {bn bc : Nat} {body : List Nat} {w : World} {M : Nat → Prop} {E : Nat → Addr} (hQ : Hid (Rq w fa fn ba bn fs body)) (hbc : Hid (ba = none → bc = 0)) (hZ : Hid ((rqL m t fs body).length ≤ 140737488354304))
    (hm : Hid (Mx w)) (hE : Hid (Sent w M E)) (M0 : M 0) (M12 : M 12) (ht : Hid (Tab w)) :
    Calls Tryz.prog 7 #[.agg #[.string m, .string t, .slice fa fn fc, .slice ba bn bc]] w fun e w' => e = .returned (.bool true) ∧ Hid (Below w.heap.size w w') := by
  obtain ⟨g, HG⟩ : ∃ q, Hid (w.heap.size = q) := ⟨_, rfl⟩
  obtain ⟨w1, H1⟩ : ∃ x, Hid (w.alloc (.cells #[.string m, .string t, .slice fa fn fc, .slice ba bn bc] 27) = x) := ⟨_, rfl⟩
  have X1 : Hid (Bx w w1 g 27 #[.string m, .string t, .slice fa fn fc, .slice ba bn bc]) := by rw [← H1.out, ← HG.out]; exact Bx.new w w 27 _ (Below.refl _ _)
  have YS : Hid (plnB m t fs body = true → prs (rqL m t fs body) = .got m t fs body (rqL m t fs body).length) := pln_yes hQ.out.b.lt
  go_enter Tryz.func7, Tryz.ntmps7
  go_upto_region 3 with (go_at_call 9; rw [H1.out]; refine (alive_n (hm.out.below X1.out.bel) (hE.out.below X1.out.bel) M0 M12 (ht.out.below X1.out.bel)).mono ?_; rintro e w2 ⟨rfl, D2⟩)
  rw [HG.out]
  have X2 : Hid (Bx w w2 g 27 #[.string m, .string t, .slice fa fn fc, .slice ba bn bc]) := X1.out.below D2.out
  obtain ⟨r0, r1, r2, r3⟩ := box4 X2.out.row
  by_cases h1 : 1024 < bn
  · have i1 : (1024 : Int) < (bn : Int) := by omega
    go_wp2
    go_ret
    exact ⟨rfl, X2.out.bel⟩
  · have i1 : ¬ ((1024 : Int) < (bn : Int)) := by omega
    by_cases h2 : 32 < fn
    · have i2 : (32 : Int) < (fn : Int) := by omega
      go_wp2
      go_ret
      exact ⟨rfl, X2.out.bel⟩
    · have i2 : ¬ ((32 : Int) < (fn : Int)) := by omega
      have PN := plain_n (m := m) (t := t) (fc := fc) (hQ.out.below X2.out.bel) hbc hZ
      obtain ⟨bp, HBP⟩ : ∃ q, Hid (plnB m t fs body = q) := ⟨_, rfl⟩
      rw [HBP.out] at PN YS
      have PN : Hid (Calls Tryz.prog 24 #[.agg #[.string m, .string t, .slice fa fn fc, .slice ba bn bc]] w2 fun e w' => e = .returned (.bool bp) ∧ Hid (Below w2.heap.size w2 w')) := PN
      cases bp with
      | false =>
        go_wp2_with (go_at_call 24; refine PN.out.mono ?_; rintro e w3 ⟨rfl, D3⟩)
        go_ret
        exact ⟨rfl, X2.out.bel.trans (D3.out.mono X2.out.bel.size)⟩
      | true =>
        have HP : Hid (prs (rqL m t fs body) = .got m t fs body (rqL m t fs body).length) := YS.out rfl
        clear YS
        obtain ⟨L, HL⟩ : ∃ L, Hid (rqL m t fs body = L) := ⟨_, rfl⟩
        rw [HL.out] at HP
        have LZ : Hid (L.length ≤ 140737488354304) := by rw [← HL.out]; exact hZ.out
        go_upto_region 5 with (go_at_call 24; refine PN.out.mono ?_; rintro e w3 ⟨rfl, D3⟩)
        have X3 : Hid (Bx w w3 g 27 #[.string m, .string t, .slice fa fn fc, .slice ba bn bc]) := X2.out.below D3.out
        clear r0 r1 r2 r3
        obtain ⟨r0, r1, r2, r3⟩ := box4 X3.out.row
        have Q3 : Hid (Rq w3 fa fn ba bn fs body) := hQ.out.below X3.out.bel
        have RQ : Hid (Calls Tryz.prog 25 #[.agg #[.string m, .string t, .slice fa fn fc, .slice ba bn bc]] w3 fun e w' => ∃ a n c, e = .returned (.slice a n c) ∧ Hid (Om w' w3.heap.size a n c L ∧ Below w3.heap.size w3 w')) := by
          have := refreq_n (m := m) (t := t) (fc := fc) Q3.out.f Q3.out.b hbc hZ
          rw [HL.out] at this
          exact this
        go_upto_region 6 with (go_at_call 25; refine RQ.out.mono ?_; rintro e w4 ⟨a, n, c, rfl, H4⟩)
        have S4 : Hid (Sln w4 a n L) := H4.out.1.sln (by rw [H4.out.1.len]; exact LZ.out)
        have NL : Hid (n = L.length) := H4.out.1.len
        have AN : Hid (a = none → c = 0) := fun e => by obtain ⟨g', _, _, h, _⟩ := H4.out.1.row; rw [h] at e; cases e
        have D04 : Hid (Below w.heap.size w w4) := X3.out.bel.trans (H4.out.2.mono X3.out.bel.size)
        obtain ⟨num, HN⟩ : ∃ q, Hid (L.length = q) := ⟨_, rfl⟩
        rw [HN.out] at HP NL
        have PA : Hid (Calls Tryz.prog 11 #[.slice a n c] w4 fun e w' => (∃ fa fn fc ba bn bc, e = .returned (.tuple #[.agg #[.string m, .string t, .slice fa fn fc, .slice ba bn bc], .int .i64 (num : Nat), .nilIface]) ∧ Hid (Rq w' fa fn ba bn fs body ∧ Own w' w4.heap.size ba bn bc body ∧ bn ≤ 1024)) ∧ Hid (Below w4.heap.size w4 w')) := by
          have := parse_all S4 AN H4.out.1.nc (hm.out.below D04.out) (hE.out.below D04.out) M0 M12
          rw [HP.out] at this
          exact this
        obtain rfl : n = num := NL.out
        go_upto_region 7 with (go_at_call 11; refine PA.out.mono ?_; rintro e w5 ⟨⟨fa2, fn2, fc2, ba2, bn2, bc2, rfl, H5⟩, D5⟩)
        have X5 : Hid (Bx w w5 g 27 #[.string m, .string t, .slice fa fn fc, .slice ba bn bc]) := (X3.out.below H4.out.2).below D5.out
        obtain ⟨q, HQ⟩ : ∃ q, Hid (w5.heap.size = q) := ⟨_, rfl⟩
        obtain ⟨w6, H6⟩ : ∃ x, Hid (w5.alloc (.cells #[.string m, .string t, .slice fa2 fn2 fc2, .slice ba2 bn2 bc2] 27) = x) := ⟨_, rfl⟩
        rw [H6.out, HQ.out]
        have D56 : Hid (Below w5.heap.size w5 w6) := by rw [← H6.out]; exact alloc1 _ _
        have X6 : Hid (Bx w w6 g 27 #[.string m, .string t, .slice fa fn fc, .slice ba bn bc]) := X5.out.below D56.out
        have Y6 : Hid (Bx w w6 q 27 #[.string m, .string t, .slice fa2 fn2 fc2, .slice ba2 bn2 bc2]) := by rw [← H6.out, ← HQ.out]; exact Bx.new w w5 27 _ X5.out.bel
        clear H6 r0 r1 r2 r3
        obtain ⟨p0, p1, p2, p3⟩ := box4 X6.out.row
        obtain ⟨s0, s1, s2, s3⟩ := box4 Y6.out.row
        have QA : Hid (Rq w6 fa fn ba bn fs body) := hQ.out.below X6.out.bel
        have QB : Hid (Rq w6 fa2 fn2 ba2 bn2 fs body) := H5.out.1.below D56.out
        have SM := same_n (m := m) (t := t) (m' := m) (t' := t) (fc := fc) (fc' := fc2) (bc := bc) (bc' := bc2) QA QB
        rw [samR_self] at SM
        have SM : Hid (Calls Tryz.prog 13 #[.agg #[.string m, .string t, .slice fa fn fc, .slice ba bn bc], .agg #[.string m, .string t, .slice fa2 fn2 fc2, .slice ba2 bn2 bc2]] w6 fun e w' => e = .returned (.bool true) ∧ Hid (Below w6.heap.size w6 w')) := SM
        have nn : ((n : Int) == (n : Int)) = true := beq_self_eq_true _
        go_wp2_with (go_at_call 13; refine SM.out.mono ?_; rintro e w7 ⟨rfl, D7⟩)
        go_ret
        exact ⟨rfl, X6.out.bel.trans (D7.out.mono X6.out.bel.size)⟩
end Go.Proofs.YtemhhlongfabmaaGreatDoor
