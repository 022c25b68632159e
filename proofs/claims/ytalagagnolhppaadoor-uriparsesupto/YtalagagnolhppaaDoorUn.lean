/- Pairs read; Same of two like uris. -/
import Derived.Test.YtalagagnolhppaaDoorUj
namespace Go.Proofs.YtalagagnolhppaaDoor
open Go.ChangeShapes Go.WideShapes Go.ChangeAt Go.RowKit
set_option maxRecDepth 100000
set_option linter.unusedVariables false
set_option linter.unusedSimpArgs false
theorem partS (xs : Array Value) (i : Nat) (x : ByteArray) (h : xs[i]? = some (.string x)) (w : World) : (part 9 xs i).run Tryd.prog w = .ok (.string x) w := by simp [part, go_sem, h]
theorem fstep {d : Nat} {xs ys : Array Value} {f : Field} {fs : List Field} {a b : Value} {r s : Bool} {w : World} (hn : f.name ≠ "_") (ha : (part f.type xs f.offset).run Tryd.prog w = .ok a w) (hb : (part f.type ys f.offset).run Tryd.prog w = .ok b w) (he : (Op.equalIn d f.type a b).run Tryd.prog w = .ok r w) (hs : (Op.eqFields d xs ys fs).run Tryd.prog w = .ok s w) :
    (Op.eqFields d xs ys (f :: fs)).run Tryd.prog w = .ok (r && s) w := by
  simp only [Op.eqFields, if_pos hn, Sem.run_bind, ha, hb, he, Result.andThen_ok]
  cases r
  · simp
  · simpa using hs
theorem fend (d : Nat) (xs ys : Array Value) (w : World) : (Op.eqFields d xs ys []).run Tryd.prog w = .ok true w := by simp [Op.eqFields]
theorem eqFd (a b c d : ByteArray) (w : World) : (Op.equalIn 10000 39 (.agg #[.string a, .string b]) (.agg #[.string c, .string d])).run Tryd.prog w = .ok (decide (a = c ∧ b = d)) w := by
  rw [run_equalIn_struct w 9999 39 _ _ (by kernel_rfl) (by kernel_rfl)]
  simp only [Program.fieldsOf, Tryd.underlying39]
  rw [fstep (by decide) (partS _ _ a rfl w) (partS _ _ c rfl w) (eqS _ a c w) (fstep (by decide) (partS _ _ b rfl w) (partS _ _ d rfl w) (eqS _ b d w) (fend _ _ _ w))]
  congr 1
  simp
def fz : Fl := (⟨#[]⟩, ⟨#[]⟩)
structure Fw (w : World) (a : Option Addr) (n : Nat) (l : List Fl) : Prop where
  len : n = l.length
  sz : n ≤ 4398046511103
  at_ : n = 0 ∨ ∃ b off, a = some ⟨b, off, none⟩ ∧ b < w.heap.size ∧ ∀ i, i < n → w.cell? ⟨b, off + i * 2, none⟩ = some (.string (l.getD i fz).1) ∧ w.cell? ⟨b, off + i * 2 + 1, none⟩ = some (.string (l.getD i fz).2)
theorem Fw.below {w w' : World} {a : Option Addr} {n : Nat} {l : List Fl} (h : Fw w a n l) (hb : Below w.heap.size w w') : Fw w' a n l := by
  refine ⟨h.len, h.sz, h.at_.imp id ?_⟩
  rintro ⟨b, off, h1, h2, h3⟩
  refine ⟨b, off, h1, Nat.lt_of_lt_of_le h2 hb.size, fun i hi => ⟨?_, ?_⟩⟩
  · exact (hb.cell (p := ⟨b, off + i * 2, none⟩) h2).trans (h3 i hi).1
  · exact (hb.cell (p := ⟨b, off + i * 2 + 1, none⟩) h2).trans (h3 i hi).2
theorem fw_rw {w : World} {lo : Nat} {a : Option Addr} {n c : Nat} {l : List Fl} (h : Rw w lo 39 EF a n c l) (hn : n ≤ 4398046511103) : Fw w a n l := by
  have e := h.len
  refine ⟨e, hn, ?_⟩
  by_cases h0 : n = 0
  · exact .inl h0
  · obtain ⟨g, rfl, _, h3, _⟩ := h.at_ (i := 0) (by omega)
    refine .inr ⟨g, 0, rfl, h3, fun i hi => ?_⟩
    have hi2 : i < l.length := by omega
    have e2 : l.getD i fz = l[i] := by simp [List.getD, hi2]
    obtain ⟨g', e3, _, _, r⟩ := h.at_ hi2
    cases e3
    rw [e2]
    have r0 := r 0 (.string l[i].1) rfl
    have r1 := r 1 (.string l[i].2) rfl
    have ez : EF.z = 2 := rfl
    rw [ez] at r0 r1
    simp only [Nat.zero_add, Nat.add_zero] at r0 r1 ⊢
    exact ⟨r0, r1⟩
set_option maxHeartbeats 4000000 in
theorem sameU_n {p : ByteArray} {a a' : Option Addr} {n c c' : Nat} {fs : List Fl} {w : World} (hA : Hid (Fw w a n fs)) (hB : Hid (Fw w a' n fs)) :
    Calls Tryd.prog 11 #[.agg #[.string p, .slice a n c], .agg #[.string p, .slice a' n c']] w fun e w' => e = .returned (.bool true) ∧ Hid (Below w.heap.size w w') := by
  obtain ⟨g1, G1⟩ : ∃ g, Hid (w.heap.size = g) := ⟨_, rfl⟩
  obtain ⟨g2, G2⟩ : ∃ g, Hid (g1 + 1 = g) := ⟨_, rfl⟩
  obtain ⟨wa, HA⟩ : ∃ wa, Hid ((w.alloc (.cells #[.string p, .slice a n c] 25)).alloc (.cells #[.string p, .slice a' n c'] 25) = wa) := ⟨_, rfl⟩
  have X1 : Hid (Bx w wa g1 25 #[.string p, .slice a n c]) := by rw [← HA.out, ← G1.out]; exact (Bx.new w w 25 _ (Below.refl _ _)).below (alloc1 _ _)
  have X2 : Hid (Bx w wa g2 25 #[.string p, .slice a' n c']) := by
    rw [← HA.out, ← G2.out, ← G1.out]
    have h := Bx.new w (w.alloc (.cells #[.string p, .slice a n c] 25)) 25 #[.string p, .slice a' n c'] (alloc1 _ _)
    have e : (w.alloc (.cells #[.string p, .slice a n c] 25)).heap.size = w.heap.size + 1 := by simp
    rw [e] at h
    exact h
  have FA : Hid (Fw wa a n fs) := hA.out.below X1.out.bel
  have FB : Hid (Fw wa a' n fs) := hB.out.below X1.out.bel
  have nz := hA.out.sz
  have CL : Hid (∀ {W g s v}, Bx w W g 25 #[.string s, v] → W.cell? ⟨g, 0, none⟩ = some (.string s) ∧ W.cell? ⟨g, 1, none⟩ = some v) := fun h => ⟨by simp [World.cell?, h.row], by simp [World.cell?, h.row]⟩
  obtain ⟨u1, u2⟩ := CL.out X1.out
  obtain ⟨v1, v2⟩ := CL.out X2.out
  have pp : (p.toList == p.toList) = true := beq_self_eq_true _
  have nn : ((n : Int) == (n : Int)) = true := beq_self_eq_true _
  go_enter Tryd.func11, Tryd.ntmps11
  go_upto_region 1 with (fail)
  rw [show w.heap.size = g1 from G1.out, G2.out, HA.out]
  go_wp2
  go_loopw [23] (fun ti wr => ∃ i : Nat, i ≤ n ∧ ti = .int .i64 (i : Int) ∧ Hid (Below wa.heap.size wa wr)) (fun ti _ => n - (intOf ti).toNat)
  case atStart => exact ⟨0, by omega, rfl, Below.refl _ _⟩
  case round =>
    clear u1 u2 v1 v2
    obtain ⟨i, hi, rfl, HB⟩ := hrel
    obtain ⟨_, u2⟩ := CL.out (X1.out.below HB.out)
    obtain ⟨_, v2⟩ := CL.out (X2.out.below HB.out)
    by_cases hlt : i < n
    · have i1 : (i : Int) < (n : Int) := by omega
      obtain ⟨p1, o1, rfl, _, k1⟩ := (FA.out.below HB.out).at_.resolve_left (by omega)
      obtain ⟨p2, o2, rfl, _, k2⟩ := (FB.out.below HB.out).at_.resolve_left (by omega)
      obtain ⟨c0, c1⟩ := k1 i hlt
      obtain ⟨c2, c3⟩ := k2 i hlt
      obtain ⟨x, Hx⟩ : ∃ x, Hid (fs.getD i fz = x) := ⟨_, rfl⟩
      rw [Hx.out] at c0 c1 c2 c3
      obtain ⟨x0, x1⟩ := x
      dsimp only at c0 c1 c2 c3
      clear k1 k2
      have EQ : ∀ W, (Op.equalIn 10000 39 (.agg #[.string x0, .string x1]) (.agg #[.string x0, .string x1])).run Tryd.prog W = .ok true W := fun W => (eqFd x0 x1 x0 x1 W).trans (by simp)
      go_wp2
      go_quiet (fail)
      go_wp2
      go_roundw
      case rel => exact ⟨i + 1, by omega, by go_num, below_drewN HB.out _⟩
      case measure => simp [intOf]; omega
    · have i1 : ¬ ((i : Int) < (n : Int)) := by omega
      go_wp2
      go_ret
      exact ⟨rfl, X1.out.bel.trans (HB.out.mono X1.out.bel.size)⟩
end Go.Proofs.YtalagagnolhppaaDoor
