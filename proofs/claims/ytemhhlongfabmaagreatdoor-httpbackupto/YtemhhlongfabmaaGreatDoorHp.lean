/- Fields compared; the laws' first question. -/
import Derived.Test.YtemhhlongfabmaaGreatDoorHo
namespace Go.Proofs.YtemhhlongfabmaaGreatDoor
open Go.ChangeShapes Go.WideShapes Go.ChangeAt Go.RowKit
set_option maxRecDepth 100000
set_option linter.unusedVariables false
set_option linter.unusedSimpArgs false
theorem partS (xs : Array Value) (i : Nat) (x : ByteArray) (h : xs[i]? = some (.string x)) (w : World) : (part 9 xs i).run Tryz.prog w = .ok (.string x) w := by simp [part, go_sem, h]
theorem fstep {d : Nat} {xs ys : Array Value} {f : Field} {fs : List Field} {a b : Value} {r s : Bool} {w : World} (hn : f.name ≠ "_") (ha : (part f.type xs f.offset).run Tryz.prog w = .ok a w) (hb : (part f.type ys f.offset).run Tryz.prog w = .ok b w) (he : (Op.equalIn d f.type a b).run Tryz.prog w = .ok r w) (hs : (Op.eqFields d xs ys fs).run Tryz.prog w = .ok s w) :
    (Op.eqFields d xs ys (f :: fs)).run Tryz.prog w = .ok (r && s) w := by
  simp only [Op.eqFields, if_pos hn, Sem.run_bind, ha, hb, he, Result.andThen_ok]
  cases r
  · simp
  · simpa using hs
theorem fend (d : Nat) (xs ys : Array Value) (w : World) : (Op.eqFields d xs ys []).run Tryz.prog w = .ok true w := by simp [Op.eqFields]
theorem eqFd (a b c d : ByteArray) (w : World) : (Op.equalIn 10000 41 (.agg #[.string a, .string b]) (.agg #[.string c, .string d])).run Tryz.prog w = .ok (decide (a = c ∧ b = d)) w := by
  rw [run_equalIn_struct w 9999 41 _ _ (by kernel_rfl) (by kernel_rfl)]
  simp only [Program.fieldsOf, Tryz.underlying41]
  rw [fstep (by decide) (partS _ _ a rfl w) (partS _ _ c rfl w) (eqS _ a c w) (fstep (by decide) (partS _ _ b rfl w) (partS _ _ d rfl w) (eqS _ b d w) (fend _ _ _ w))]
  congr 1
  simp
def aL : List Nat := [71, 69, 84, 32, 47, 97, 32, 72, 84, 84, 80, 47, 49, 46, 49, 13, 10, 72, 111, 115, 116, 58, 32, 120, 13, 10, 13, 10, 114, 101, 115, 116]
def aG : ByteArray := ⟨#[71, 69, 84]⟩
def aT : ByteArray := ⟨#[47, 97]⟩
def aH : ByteArray := ⟨#[104, 111, 115, 116]⟩
def aX : ByteArray := ⟨#[120]⟩
theorem prs_aL : prs aL = .got aG aT [(aH, aX)] [] 28 := by kernel_rfl
def wL : List Nat := [72, 84, 84, 80, 47, 49, 46, 49, 32, 50, 48, 52, 32, 78, 111, 32, 67, 111, 110, 116, 101, 110, 116, 13, 10, 99, 111, 110, 116, 101, 110, 116, 45, 108, 101, 110, 103, 116, 104, 58, 32, 48, 13, 10, 13, 10]
theorem wrt_aL : wrt 204 [] [] = wL := by kernel_rfl
set_option maxHeartbeats 4000000 in
theorem alive_n {w : World} {M : Nat → Prop} {E : Nat → Addr} (hm : Hid (Mx w)) (hE : Hid (Sent w M E)) (M0 : M 0) (M12 : M 12) (ht : Hid (Tab w)) : Calls Tryz.prog 9 #[] w fun e w' => e = .returned (.bool true) ∧ Hid (Below w.heap.size w w') := by
  have CV0 := Lib.run_convert_bytes_const (P := Tryz.prog) w 22 5 #[.int .u8 71, .int .u8 69, .int .u8 84, .int .u8 32, .int .u8 47, .int .u8 97, .int .u8 32, .int .u8 72, .int .u8 84, .int .u8 84, .int .u8 80, .int .u8 47, .int .u8 49, .int .u8 46, .int .u8 49, .int .u8 13, .int .u8 10, .int .u8 72, .int .u8 111, .int .u8 115, .int .u8 116, .int .u8 58, .int .u8 32, .int .u8 120, .int .u8 13, .int .u8 10, .int .u8 13, .int .u8 10, .int .u8 114, .int .u8 101, .int .u8 115, .int .u8 116] 32 32 Tryz.underlying22 Tryz.underlying5
  obtain ⟨w1, H1⟩ : ∃ w1, Hid (w.alloc (.cells #[.int .u8 71, .int .u8 69, .int .u8 84, .int .u8 32, .int .u8 47, .int .u8 97, .int .u8 32, .int .u8 72, .int .u8 84, .int .u8 84, .int .u8 80, .int .u8 47, .int .u8 49, .int .u8 46, .int .u8 49, .int .u8 13, .int .u8 10, .int .u8 72, .int .u8 111, .int .u8 115, .int .u8 116, .int .u8 58, .int .u8 32, .int .u8 120, .int .u8 13, .int .u8 10, .int .u8 13, .int .u8 10, .int .u8 114, .int .u8 101, .int .u8 115, .int .u8 116] 5 (32, 33)) = w1) := ⟨_, rfl⟩
  have CV : (convert 22 22 (.slice (some ⟨w.heap.size, 0, none⟩) 32 32)).run Tryz.prog (w.alloc (.cells #[.int .u8 71, .int .u8 69, .int .u8 84, .int .u8 32, .int .u8 47, .int .u8 97, .int .u8 32, .int .u8 72, .int .u8 84, .int .u8 84, .int .u8 80, .int .u8 47, .int .u8 49, .int .u8 46, .int .u8 49, .int .u8 13, .int .u8 10, .int .u8 72, .int .u8 111, .int .u8 115, .int .u8 116, .int .u8 58, .int .u8 32, .int .u8 120, .int .u8 13, .int .u8 10, .int .u8 13, .int .u8 10, .int .u8 114, .int .u8 101, .int .u8 115, .int .u8 116] 5)) = .ok (.slice (some ⟨w.heap.size, 0, none⟩) 32 32) w1 := CV0.trans (by rw [← H1.out]; rfl)
  clear CV0
  have D1 : Hid (Below w.heap.size w w1) := by rw [← H1.out]; exact alloc1 _ _
  have S1 : Hid (Sln w1 (some ⟨w.heap.size, 0, none⟩) 32 aL) := by
    refine ⟨rfl, by decide, by decide, .inr ⟨w.heap.size, 0, rfl, by rw [← H1.out]; simp, fun i hi => ?_⟩⟩
    have hb : w1.heap[w.heap.size]? = some (.cells (aL.map bv).toArray 5 (32, 33)) := by rw [← H1.out]; exact heap_alloc_new w _
    rw [Nat.zero_add]
    simp [World.cell?, hb, hi, bv, List.getD]
  have P1 : Hid (Calls Tryz.prog 11 #[.slice (some ⟨w.heap.size, 0, none⟩) 32 32] w1 fun e w' => (∃ a n c b k d, e = .returned (.tuple #[.agg #[.string aG, .string aT, .slice a n c, .slice b k d], .int .i64 28, .nilIface]) ∧ Rw w' w1.heap.size 41 EF a n c [(aH, aX)] ∧ Own w' w1.heap.size b k d []) ∧ Hid (Below w1.heap.size w1 w')) := by
    have h := parse_n S1 (c := 32) (fun h => by cases h) (by omega) (hm.out.below D1.out) (hE.out.below D1.out) M0 M12
    rw [prs_aL] at h
    exact h
  have EQ := eqFd aH aX aH aX
  have EQ2 : ∀ W, (Op.equalIn 10000 41 (.agg #[.string aH, .string aX]) (.agg #[.string { data := #[104, 111, 115, 116] }, .string { data := #[120] }])).run Tryz.prog W = .ok true W := fun W => (EQ W).trans (by rw [decide_eq_true ⟨rfl, rfl⟩])
  clear EQ
  have qG : (aG.toList == [71, 69, 84]) = true := beq_lit (t := ⟨#[71, 69, 84]⟩) (decide_eq_true rfl) rfl
  have qT : (aT.toList == [47, 97]) = true := beq_lit (t := ⟨#[47, 97]⟩) (decide_eq_true rfl) rfl
  have WR : Hid (∀ {W : World}, Hid (Tab W) → Calls Tryz.prog 21 #[.agg #[.int .i64 204, .slice none 0 0, .slice none 0 0]] W fun e w' => ∃ a n c, e = .returned (.slice a n c) ∧ Hid (Om w' W.heap.size a n c wL ∧ Below W.heap.size W w')) := fun {W} h => by
    have := write_n (st := 204) (fs := []) (body := []) (w := W) (show Hid (Fw W none 0 []) from ⟨rfl, by omega, fun i hi => by omega, .inl rfl⟩) (by omega) (Nat.le_refl 0) (show Hid (Sln W none 0 []) from ⟨rfl, by simp, by simp, .inl rfl⟩) (fun _ => rfl) h (by omega) (by omega) (by rw [wrt_aL]; exact (by decide : wL.length ≤ 140737488354304))
    rw [wrt_aL] at this
    exact this
  go_enter Tryz.func9, Tryz.ntmps9
  go_upto_region 2 with (go_at_call 11; refine P1.out.mono ?_; rintro e w2 ⟨⟨a, n, c, b, k, d, rfl, RW, OW⟩, D2⟩
                         have n1 : n = 1 := RW.len
                         have k0 : k = 0 := OW.len
                         subst n1 k0
                         obtain ⟨g, rfl, g1, g2, rr⟩ := RW.at_ (i := 0) (by simp)
                         have r0 : w2.cell? ⟨g, 0, none⟩ = some (.string aH) := by simpa [EF] using rr 0 (.string aH) rfl
                         have r1 : w2.cell? ⟨g, 1, none⟩ = some (.string aX) := by simpa [EF] using rr 1 (.string aX) rfl)
  obtain ⟨w3, H3⟩ : ∃ w3, Hid (w2.alloc (.cells #[.string aG, .string aT, .slice (some ⟨g, 0, none⟩) 1 c, .slice b 0 d] 27) = w3) := ⟨_, rfl⟩
  rw [H3.out]
  obtain ⟨q, HQ⟩ : ∃ q, Hid (w2.heap.size = q) := ⟨_, rfl⟩
  rw [HQ.out]
  have B3 : Hid (Bx w w3 q 27 #[.string aG, .string aT, .slice (some ⟨g, 0, none⟩) 1 c, .slice b 0 d]) := by
    have hb : Below w.heap.size w w2 := D1.out.trans (D2.out.mono D1.out.size)
    rw [← H3.out, ← HQ.out]
    exact Bx.new w w2 27 _ hb
  have T3 : Hid (Tab w3) := ht.out.below B3.out.bel
  have p0 : w3.cell? ⟨q, 0, none⟩ = some (.string aG) := by simp [World.cell?, B3.out.row]
  have p1 : w3.cell? ⟨q, 1, none⟩ = some (.string aT) := by simp [World.cell?, B3.out.row]
  have p2 : w3.cell? ⟨q, 2, none⟩ = some (.slice (some ⟨g, 0, none⟩) 1 c) := by simp [World.cell?, B3.out.row]
  have bl3 : Below w2.heap.size w2 w3 := by rw [← H3.out]; exact alloc1 _ _
  have x0 : w3.cell? ⟨g, 0, none⟩ = some (.string aH) := (bl3.cell (p := ⟨g, 0, none⟩) g2).trans r0
  have x1 : w3.cell? ⟨g, 1, none⟩ = some (.string aX) := (bl3.cell (p := ⟨g, 1, none⟩) g2).trans r1
  clear r0 r1 bl3 rr g1 g2
  go_wp2_with (go_at_call 21; refine (WR.out T3).mono ?_; rintro e w4 ⟨a4, n4, c4, rfl, H4⟩
               have SN : Hid (Sln w4 a4 n4 wL) := H4.out.1.sln (by rw [H4.out.1.len]; decide)
               have CW := conv_n (k := c4) SN
               have qW : ((spell wL).toList == [72, 84, 84, 80, 47, 49, 46, 49, 32, 50, 48, 52, 32, 78, 111, 32, 67, 111, 110, 116, 101, 110, 116, 13, 10, 99, 111, 110, 116, 101, 110, 116, 45, 108, 101, 110, 103, 116, 104, 58, 32, 48, 13, 10, 13, 10]) = true := beq_lit (t := spell wL) (decide_eq_true rfl) (by kernel_rfl))
  go_ret
  exact ⟨rfl, B3.out.bel.trans (H4.out.2.mono B3.out.bel.size)⟩
end Go.Proofs.YtemhhlongfabmaaGreatDoor
