/- The law WireSpoilt walked: it returns true, and changes nothing that was there. -/
import Derived.Test.YtnhnpkedkdefnabDoorVf
import Derived.Test.YtnhnpkedkdefnabDoorVo
import Derived.Deep.CutBlock
import Derived.Deep.DeepCutAuto
namespace Go.Proofs.YtnhnpkedkdefnabDoor
open Go.ChangeShapes Go.WideShapes Go.ChangeAt Go.RowKit
set_option linter.unusedVariables false
set_option linter.unusedSimpArgs false
theorem Opc.below {W W' : World} {b o : Nat} {x : Opt} {a : Option Addr} {n c : Nat} (h : Opc W b o x a n c) (hb : Below W.heap.size W W') : Opc W' b o x a n c := by
  have hl : b < W.heap.size := cell_lt h.c0
  exact ⟨(hb.cell (p := ⟨b, o, none⟩) hl).trans h.c0, (hb.cell (p := ⟨b, o + 1, none⟩) hl).trans h.c1, (hb.cell (p := ⟨b, o + 2, none⟩) hl).trans h.c2, (hb.cell (p := ⟨b, o + 3, none⟩) hl).trans h.c3, h.w0, h.w1, h.w2, h.sl.below hb, h.nc, h.cap, h.z⟩
theorem Own.below {w w' : World} {B : Nat} {a : Option Addr} {n c : Nat} {L : List Nat} (h : Own w B a n c L) (hb : Below w.heap.size w w') : Own w' B a n c L := h.block (fun q hq => hb.block q (h.ge q hq).2)
theorem Wri.below {w w' : World} {g B : Nat} {a : Option Addr} {n c : Nat} {L : List Nat} {s : Bool} (h : Wri w g B a n c L s) (hb : Below w.heap.size w w') : Wri w' g B a n c L s := ⟨(hb.block g h.lt).trans h.blk, h.own.below hb, h.ne⟩
theorem len_tot (L : List Opt) : L.length ≤ tot L := by
  induction L with
  | nil => simp [tot]
  | cons x r ih => simp [tot] at ih ⊢; omega
/- a spoilt writer given any number -/
theorem num_any {w : World} {g B : Nat} {a : Option Addr} {n c : Nat} {L : List Nat} {z : Int} (hW : Hid (Wri w g B a n c L true)) (wz : (Lit.int .i64 z).wf = true) (hB : Hid (B ≤ w.heap.size)) (hb : Hid (n + 9 ≤ 140737488352256)) :
    Calls Tryd.prog 6 #[.pointer (some ⟨g, 0, none⟩), .int .i64 z] w fun e w' => ∃ a' n' c' L', e = .returned (.tuple #[]) ∧ Hid (Wri w' g B a' n' c' L' true ∧ n' ≤ n + 9 ∧ Wfr w w' g a ∧ New w a a') := by
  have bz := bounds_i64 wz
  by_cases h : z < 0
  · refine (num_bad hW wz h).mono ?_
    rintro e w' ⟨h1, H⟩
    exact ⟨a, n, c, L, h1, H.out.1, by omega, H.out.2, fun q hq => .inl hq⟩
  · obtain ⟨t, rfl⟩ : ∃ t : Nat, z = (t : Int) := ⟨z.toNat, by omega⟩
    refine (num_n hW (N := t) (by omega) hB hb).mono ?_
    rintro e w' ⟨a', n', c', h1, H⟩
    refine ⟨a', n', c', L ++ enc t, h1, H.out.1, ?_, H.out.2.1, H.out.2.2⟩
    have h2 := H.out.1.own.len
    have h3 := hW.out.own.len
    have h4 := enc_nine (n := t) (by omega)
    rw [List.length_append] at h2
    omega
theorem inv_neg (z : Int) (h0 : 0 ≤ z) (h1 : z < 9223372036854775808) : bits .xor .i64 (if IntKind.i64.signed = true then -1 else 9223372036854775807) z = -1 - z := by
  obtain ⟨t, rfl⟩ : ∃ t : Nat, z = (t : Int) := ⟨z.toNat, by omega⟩
  have e : bits .xor .i64 (if IntKind.i64.signed = true then -1 else 9223372036854775807) (t : Int) = IntKind.i64.wrap (((BitVec.allOnes 64) ^^^ (BitVec.ofInt 64 (t : Int))).toNat : Int) := rfl
  rw [e, BitVec.allOnes_xor, BitVec.toNat_not, ofInt_i64 t (by omega), IntKind.wrap_i64]
  omega
/- while the script is played -/
structure Spl (w wr : World) (g : Nat) (a : Option Addr) (n c : Nat) (L : List Nat) (k : Nat) : Prop where
  wri : Wri wr g w.heap.size a n c L true
  le : n ≤ 9 + 18 * k
  bel : Below w.heap.size w wr
  ge : w.heap.size ≤ g
set_option maxHeartbeats 1000000 in
theorem spoilt_n {w : World} {a : Option Addr} {n c : Nat} {L : List Opt} {z : Int} {E : Nat → Addr} (hO : Hid (Ops w a n L)) (hnc : n ≤ c) (hT : Hid (tot L ≤ 1048576)) (wz : (Lit.int .i64 z).wf = true) (hE : Hid (Sent w 1 E)) :
    Calls Tryd.prog 3 #[.slice a n c, .int .i64 z] w fun e w' => e = .returned (.bool true) ∧ Hid (Below w.heap.size w w') := by
  have bz := bounds_i64 wz
  have hn : n ≤ 1048576 := by rw [hO.out.len]; exact Nat.le_trans (len_tot L) hT.out
  obtain ⟨y, hy, wy, hyz⟩ : ∃ y : Int, y < 0 ∧ (Lit.int .i64 y).wf = true ∧ ((0 ≤ z ∧ y = -1 - z) ∨ (z < 0 ∧ y = z)) := by
    by_cases h : 0 ≤ z
    · refine ⟨-1 - z, by omega, ?_, .inl ⟨h, rfl⟩⟩
      simp [Lit.wf, IntKind.min, IntKind.max, IntKind.signed, IntKind.bits]
      omega
    · exact ⟨z, by omega, wz, .inr ⟨by omega, rfl⟩⟩
  go_enter Tryd.func3, Tryd.ntmps3
  go_upto_region 6 with (first
    | (go_at_call 4; refine (alive_n w).mono ?_; rintro e w1 ⟨rfl, B1⟩)
    | (go_at_call 5; refine (newWriter_n w1).mono ?_; rintro e w2 ⟨rfl, h2⟩
       have W2 : Hid (Wri w2 w1.heap.size w.heap.size none 0 0 [] false) := by rw [h2.out]; exact Wri.new w1 _
       have B2 : Hid (Below w.heap.size w w2) := by rw [h2.out]; exact B1.out.alloc B1.out.size _
       have G2 : Hid (w.heap.size ≤ w1.heap.size) := B1.out.size
       obtain ⟨g, Hg⟩ : ∃ g, Hid (w1.heap.size = g) := ⟨_, rfl⟩
       rw [Hg.out] at W2 G2 ⊢
       clear h2))
  clear Hg B1
  have Z0 : Hid (0 < 1) := Nat.zero_lt_one
  rcases hyz with ⟨h0, ey⟩ | ⟨h0, ey⟩
  have iv := inv_neg z h0 (by omega)
  rw [← ey] at iv
  have EY : Hid (0 ≤ z ∧ y = -1 - z) := ⟨h0, ey⟩
  clear ey
  rotate_left
  subst ey
  go_upto_region 9 with (first
    | (go_at_call 6; refine (num_bad W2 wy hy).mono ?_; rintro e w3 ⟨rfl, H3⟩))
  all_goals
    have P3 : Hid (Spl w w3 g none 0 0 [] (tot (L.take 0))) := ⟨H3.out.1, by omega, Wfr.below B2.out H3.out.2 G2.out (by simp [blkOf]) B2.out.size, G2.out⟩
    clear H3 W2
    go_wp2
    go_loopw [26] (fun ti wr => ∃ (k : Nat) (a1 : Option Addr) (n1 c1 : Nat) (Lw : List Nat), k ≤ n ∧ ti = .int .i64 k ∧ Hid (Spl w wr g a1 n1 c1 Lw (tot (L.take k)))) (fun ti _ => n - (intOf ti).toNat)
    case atStart => exact ⟨0, none, 0, 0, [], by omega, rfl, P3.out⟩
    case round =>
      obtain ⟨k, a1, n1, c1, Lw, hk, rfl, H4⟩ := hrel
      by_cases hlt : k < n
      · obtain ⟨b, o, rfl, hb, hall⟩ := hO.out.row.resolve_left (by omega)
        obtain ⟨ab, nb, cb, hop⟩ := hall k hlt
        have HP : Hid (Opc wr b (o + k * 4) (L.getD k o0) ab nb cb) := hop.below H4.out.bel
        obtain ⟨x, Hx⟩ : ∃ x, Hid (L.getD k o0 = x) := ⟨_, rfl⟩
        rw [Hx.out] at HP
        have d0 := HP.out.c0
        have d1 := HP.out.c1
        have d2 := HP.out.c2
        have d3 := HP.out.c3
        obtain ⟨dd, HL⟩ : ∃ dd, Hid (n = k + 1 + dd ∧ n ≤ 1048576) := ⟨n - k - 1, by omega, by rw [hO.out.len]; exact Nat.le_trans (len_tot L) hT.out⟩
        have S0 : Hid (Sln w ab nb x.bs) := by rw [← Hx.out]; exact hop.sl
        have ZB : Hid (ab = none → cb = 0) := hop.z
        have nbl : nb = x.bs.length := S0.out.len
        have tk : tot (L.take (k + 1)) = tot (L.take k) + nb + 1 := by rw [take_opt (by rw [← hO.out.len]; exact hlt), tot_snoc, Hx.out, nbl]
        have tl := Nat.le_trans (tot_take L (k + 1)) hT.out
        have n1l := H4.out.le
        have K5 : Hid (n1 + 9 ≤ 140737488352256) := by show _ ≤ _; omega
        have K6 : Hid (n1 + 9 + nb + 18 ≤ 140737488352256) := by show _ ≤ _; omega
        have TK : Hid (9 + 18 * tot (L.take k) + nb + 18 ≤ 9 + 18 * tot (L.take (k + 1))) := by show _ ≤ _; omega
        have N1 : Hid (n1 ≤ 9 + 18 * tot (L.take k)) := n1l
        have NW : (Lit.int .i64 x.num).wf = true := HP.out.w2
        clear hop hall nbl tk tl n1l
        go_upto_region 12 with (fail)
        obtain ⟨w5, W5⟩ : ∃ w5, Hid (wr.alloc (.cells #[.int .i64 x.kind, .int .i64 x.which, .int .i64 x.num, .slice ab nb cb] 29) = w5) := ⟨_, rfl⟩
        obtain ⟨q, Hq⟩ : ∃ q, Hid (wr.heap.size = q) := ⟨_, rfl⟩
        have Q5 : Hid (w5.heap[q]? = some (.cells #[.int .i64 x.kind, .int .i64 x.which, .int .i64 x.num, .slice ab nb cb] 29 (0, 0))) := by rw [← W5.out, ← Hq.out]; exact heap_alloc_new wr _
        have A5 : Hid (Below wr.heap.size wr w5) := by rw [← W5.out]; exact (Below.refl _ _).alloc (Nat.le_refl _) _
        have P5 : Hid (Wri w5 g w.heap.size a1 n1 c1 Lw true) := H4.out.wri.below A5.out
        have B5 : Hid (Below w.heap.size w w5) := H4.out.bel.trans (A5.out.mono H4.out.bel.size)
        have Z5 : Hid (w.heap.size ≤ w5.heap.size) := B5.out.size
        have gq : Hid (q ≠ g ∧ some q ≠ blkOf a1 ∧ q < w5.heap.size) := by
          have h1 := H4.out.wri.lt
          refine ⟨by rw [← Hq.out]; omega, fun e => ?_, (Array.getElem?_eq_some_iff.1 Q5.out).1⟩
          have := (H4.out.wri.own.ge q e.symm).2
          have := Hq.out
          omega
        have GE : Hid (w.heap.size ≤ g) := H4.out.ge
        have GA : Hid (∀ j, blkOf a1 = some j → w.heap.size ≤ j) := fun j hj => (H4.out.wri.own.ge j hj).1
        have e2 : w5.cell? ⟨q, 2, none⟩ = some (.int .i64 x.num) := by have := Q5.out; simp [World.cell?, this]
        rw [W5.out, Hq.out]
        clear d0 d1 d2 d3 HP W5 Hq A5 H4
        go_upto_region 13 with (first
          | (go_at_call 6; refine (num_any P5 NW Z5 K5).mono ?_; rintro e w6 ⟨a2, n2, c2, L2, rfl, H6⟩))
        have Q6 : Hid (w6.heap[q]? = some (.cells #[.int .i64 x.kind, .int .i64 x.which, .int .i64 x.num, .slice ab nb cb] 29 (0, 0))) := (H6.out.2.2.1.block q gq.out.2.2 gq.out.1 gq.out.2.1).trans Q5.out
        have B6 : Hid (Below w.heap.size w w6) := Wfr.below B5.out H6.out.2.2.1 GE.out GA.out B5.out.size
        have P6 : Hid (Wri w6 g w.heap.size a2 n2 c2 L2 true) := H6.out.1
        have Z6 : Hid (w.heap.size ≤ w6.heap.size) := B6.out.size
        have S6 : Hid (Sln w6 ab nb x.bs) := S0.out.below B6.out
        have AP6 : Hid (∀ b off, x.bs ≠ [] → ab = some ⟨b, off, none⟩ → b ≠ g ∧ some b ≠ blkOf a2) := by
          intro b off hne hab
          obtain ⟨b', off', h1, h2, _⟩ := S0.out.sli.2.2.resolve_left hne
          rw [hab] at h1
          simp only [Option.some.injEq, Addr.mk.injEq, and_true] at h1
          have h3 := GE.out
          refine ⟨by omega, fun e => ?_⟩
          have := (H6.out.1.own.ge b e.symm).1
          omega
        have K7 : Hid (n2 + nb + 18 ≤ 140737488352256) := by have h1 := H6.out.2.1; have h2 := K6.out; show _ ≤ _; omega
        have N2 : Hid (n2 ≤ n1 + 9) := H6.out.2.1
        have e3 : w6.cell? ⟨q, 3, none⟩ = some (.slice ab nb cb) := by have := Q6.out; simp [World.cell?, this]
        clear e2 P5 Q5
        go_upto_region 14 with (first
          | (go_at_call 7; refine (wbytes_n P6 S6 ZB AP6 Z6 K7).mono ?_; rintro e w7 ⟨a3, n3, c3, rfl, H7⟩))
        have P7 : Hid (Wri w7 g w.heap.size a3 n3 c3 (L2 ++ (enc nb ++ x.bs)) true) := H7.out.1
        have B7 : Hid (Below w.heap.size w w7) := Wfr.below B6.out H7.out.2.1 GE.out (fun j hj => (P6.out.own.ge j hj).1) B6.out.size
        have E7 : Hid (Sent w7 1 E) := hE.out.below B7.out
        have N3 : Hid (n3 ≤ 9 + 18 * tot (L.take (k + 1))) := by
          have h1 := H7.out.1.own.len
          have h2 := P6.out.own.len
          have h3 := enc_nine (n := nb) (by have := K7.out; omega)
          have h4 := S0.out.len
          simp only [List.length_append] at h1
          have h5 := TK.out
          have h6 := N1.out
          have h7 := N2.out
          show _ ≤ _
          omega
        clear e3 P6 Q6 H6
        go_upto_region 15 with (first
          | (go_at_call 8; refine (done_bad P7 E7 (Nat.le_refl _)).mono ?_; rintro e w8 ⟨rfl, H8⟩))
        have F8 : Hid (Spl w w8 g a3 n3 c3 (L2 ++ (enc nb ++ x.bs)) (tot (L.take (k + 1)))) := by
          obtain ⟨j, hj⟩ := H8.out
          have b8 : Below w7.heap.size w7 w8 := by rw [hj]; exact below_drewN (Below.refl _ _) j
          exact ⟨P7.out.below b8, N3.out, B7.out.trans (b8.mono B7.out.size), GE.out⟩
        have ce := (hE.out.below F8.out.bel).c 0 (by omega)
        unfold er at ce
        have EQ := neq_same w8 (E 0)
        clear H8 H7 P7
        go_wp2
        go_roundw
        case rel => have hk2 := HL.out; exact ⟨k + 1, a3, n3, c3, _, by omega, by go_num, F8.out⟩
        case measure => have hk2 := HL.out; simp [intOf]; omega
      · have H4' : Hid (Wri wr g w.heap.size a1 n1 c1 Lw true) := H4.out.wri
        have E4 : Hid (Sent wr 1 E) := hE.out.below H4.out.bel
        go_upto_region 19 with (first
          | (go_at_call 8; refine (done_bad H4' E4 (Nat.le_refl _)).mono ?_; rintro e w8 ⟨rfl, H8⟩))
        have F8 : Hid (Below w.heap.size w w8) := by
          obtain ⟨j, hj⟩ := H8.out
          rw [hj]
          exact below_drewN H4.out.bel j
        have ce := (hE.out.below F8.out).c 0 (by omega)
        unfold er at ce
        have EQ := eql_same w8 (E 0)
        clear H8
        go_wp2
        go_ret
        exact ⟨rfl, F8.out⟩
end Go.Proofs.YtnhnpkedkdefnabDoor
