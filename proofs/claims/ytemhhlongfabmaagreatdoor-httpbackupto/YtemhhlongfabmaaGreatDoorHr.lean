/- Two requests compared. -/
import Derived.Test.YtemhhlongfabmaaGreatDoorHp
namespace Go.Proofs.YtemhhlongfabmaaGreatDoor
open Go.ChangeShapes Go.WideShapes Go.ChangeAt Go.RowKit
set_option maxRecDepth 20000
set_option linter.unusedVariables false
set_option linter.unusedSimpArgs false
/- a request by its cells -/
structure Rq (W : World) (fa : Option Addr) (fn : Nat) (ba : Option Addr) (bn : Nat) (fs : List Fl) (body : List Nat) : Prop where
  f : Fw W fa fn fs
  b : Sln W ba bn body
theorem Rq.below {W W' : World} {fa : Option Addr} {fn : Nat} {ba : Option Addr} {bn : Nat} {fs : List Fl} {body : List Nat} (h : Rq W fa fn ba bn fs body) (hb : Below W.heap.size W W') : Rq W' fa fn ba bn fs body := ⟨h.f.below hb, h.b.below hb⟩
theorem Rq.zero (W : World) : Rq W none 0 none 0 [] [] := ⟨⟨rfl, by omega, fun i hi => by omega, .inl rfl⟩, ⟨rfl, by simp, by simp, .inl rfl⟩⟩
def samR (m t m' t' : ByteArray) (fs fs' : List Fl) (body body' : List Nat) : Bool := decide (m = m') && (decide (t = t') && (decide (body = body') && decide (fs = fs')))
theorem samR_self (m t : ByteArray) (fs : List Fl) (body : List Nat) : samR m t m t fs fs body body = true := by simp [samR]
set_option maxHeartbeats 4000000 in
theorem same_n {m t m' t' : ByteArray} {fa fa' ba ba' : Option Addr} {fn fn' fc fc' bn bn' bc bc' : Nat} {fs fs' : List Fl} {body body' : List Nat} {w : World} (hA : Hid (Rq w fa fn ba bn fs body)) (hB : Hid (Rq w fa' fn' ba' bn' fs' body')) :
    Calls Tryz.prog 13 #[.agg #[.string m, .string t, .slice fa fn fc, .slice ba bn bc], .agg #[.string m', .string t', .slice fa' fn' fc', .slice ba' bn' bc']] w fun e w' => e = .returned (.bool (samR m t m' t' fs fs' body body')) ∧ Hid (Below w.heap.size w w') := by
  obtain ⟨g1, G1⟩ : ∃ g, Hid (w.heap.size = g) := ⟨_, rfl⟩
  obtain ⟨g2, G2⟩ : ∃ g, Hid (g1 + 1 = g) := ⟨_, rfl⟩
  obtain ⟨wa, HA⟩ : ∃ wa, Hid ((w.alloc (.cells #[.string m, .string t, .slice fa fn fc, .slice ba bn bc] 27)).alloc (.cells #[.string m', .string t', .slice fa' fn' fc', .slice ba' bn' bc'] 27) = wa) := ⟨_, rfl⟩
  have X1 : Hid (Bx w wa g1 27 #[.string m, .string t, .slice fa fn fc, .slice ba bn bc]) := by rw [← HA.out, ← G1.out]; exact (Bx.new w w 27 _ (Below.refl _ _)).below (alloc1 _ _)
  have X2 : Hid (Bx w wa g2 27 #[.string m', .string t', .slice fa' fn' fc', .slice ba' bn' bc']) := by
    have h := Bx.new w (w.alloc (.cells #[.string m, .string t, .slice fa fn fc, .slice ba bn bc] 27)) 27 #[.string m', .string t', .slice fa' fn' fc', .slice ba' bn' bc'] (alloc1 _ _)
    have e : (w.alloc (.cells #[.string m, .string t, .slice fa fn fc, .slice ba bn bc] 27)).heap.size = g2 := by rw [← G2.out, ← G1.out]; simp
    rw [e, HA.out] at h
    exact h
  have hA' : Hid (Rq wa fa fn ba bn fs body) := hA.out.below X1.out.bel
  have hB' : Hid (Rq wa fa' fn' ba' bn' fs' body') := hB.out.below X1.out.bel
  have LL : Hid (fn = fs.length ∧ fn' = fs'.length) := ⟨hA.out.f.len, hB.out.f.len⟩
  have sz1 := hA.out.f.sz
  have sz2 := hB.out.f.sz
  have CA := fun k => conv_n (k := k) (show Hid (Sln wa ba bn body) from hA'.out.b)
  have CB := fun k => conv_n (k := k) (show Hid (Sln wa ba' bn' body') from hB'.out.b)
  obtain ⟨b0, E0⟩ : ∃ b, Hid (decide (m = m') = b) := ⟨_, rfl⟩
  obtain ⟨b1, E1⟩ : ∃ b, Hid (decide (t = t') = b) := ⟨_, rfl⟩
  obtain ⟨b2, E2⟩ : ∃ b, Hid (decide (body = body') = b) := ⟨_, rfl⟩
  obtain ⟨b3, E3⟩ : ∃ b, Hid (decide (fs = fs') = b) := ⟨_, rfl⟩
  have EV : Hid (samR m t m' t' fs fs' body body' = (b0 && (b1 && (b2 && b3)))) := (by unfold samR; rw [E0.out, E1.out, E2.out, E3.out] : samR m t m' t' fs fs' body body' = _)
  have q0 : (m.toList == m'.toList) = b0 := by rw [beq_ba, E0.out]
  have q1 : (t.toList == t'.toList) = b1 := by rw [beq_ba, E1.out]
  have q2 : ((spell body).toList == (spell body').toList) = b2 := by rw [spell_beq hA.out.b.lt hB.out.b.lt, E2.out]
  have CLS : Hid (∀ {W : World}, Bx w W g1 27 #[.string m, .string t, .slice fa fn fc, .slice ba bn bc] → W.cell? ⟨g1, 0, none⟩ = some (.string m) ∧ W.cell? ⟨g1, 1, none⟩ = some (.string t) ∧ W.cell? ⟨g1, 2, none⟩ = some (.slice fa fn fc) ∧ W.cell? ⟨g1, 3, none⟩ = some (.slice ba bn bc)) := fun {W} h => by
    refine ⟨?_, ?_, ?_, ?_⟩ <;> simp [World.cell?, h.row]
  have CLT : Hid (∀ {W : World}, Bx w W g2 27 #[.string m', .string t', .slice fa' fn' fc', .slice ba' bn' bc'] → W.cell? ⟨g2, 0, none⟩ = some (.string m') ∧ W.cell? ⟨g2, 1, none⟩ = some (.string t') ∧ W.cell? ⟨g2, 2, none⟩ = some (.slice fa' fn' fc') ∧ W.cell? ⟨g2, 3, none⟩ = some (.slice ba' bn' bc')) := fun {W} h => by
    refine ⟨?_, ?_, ?_, ?_⟩ <;> simp [World.cell?, h.row]
  obtain ⟨u0, u1, u2, u3⟩ := CLS.out X1.out
  obtain ⟨v0, v1, v2, v3⟩ := CLT.out X2.out
  go_enter Tryz.func13, Tryz.ntmps13
  go_upto_region 1 with (fail)
  rw [HA.out, G1.out, G2.out]
  cases b0 with
  | false =>
    go_wp2
    go_ret
    rw [EV.out]
    exact ⟨rfl, X1.out.bel⟩
  | true =>
    cases b1 with
    | false =>
      go_wp2
      go_ret
      rw [EV.out]
      exact ⟨rfl, X1.out.bel⟩
    | true =>
      cases b2 with
      | false =>
        go_wp2
        go_ret
        rw [EV.out]
        exact ⟨rfl, X1.out.bel⟩
      | true =>
        by_cases hnn : fn = fn'
        · subst hnn
          go_upto_region 3 with (fail)
          clear u0 u1 u3 v0 v1 v3 q0 q1 q2 CA CB
          go_wp2
          go_loopw [39] (fun ti wr => ∃ i : Nat, i ≤ fn ∧ ti = .int .i64 (i : Int) ∧ Hid (∀ j, j < i → fs.getD j fz = fs'.getD j fz) ∧ Hid (Below wa.heap.size wa wr)) (fun ti _ => fn - (intOf ti).toNat)
          case atStart => exact ⟨0, by omega, rfl, fun j hj => by omega, Below.refl _ _⟩
          case round =>
            obtain ⟨i, hi, rfl, HI, HB⟩ := hrel
            have Y1 : Hid (Bx w wr g1 27 #[.string m, .string t, .slice fa fn fc, .slice ba bn bc]) := X1.out.below HB.out
            have Y2 : Hid (Bx w wr g2 27 #[.string m', .string t', .slice fa' fn fc', .slice ba' bn' bc']) := X2.out.below HB.out
            obtain ⟨_, _, a2, _⟩ := CLS.out Y1.out
            obtain ⟨_, _, d2, _⟩ := CLT.out Y2.out
            by_cases hlt : i < fn
            · have i1 : (i : Int) < (fn : Int) := by omega
              obtain ⟨p1, o1, rfl, _, k1⟩ := (hA'.out.f.below HB.out).at_.resolve_left (by omega)
              obtain ⟨p2, o2, rfl, _, k2⟩ := (hB'.out.f.below HB.out).at_.resolve_left (by omega)
              obtain ⟨c0, c1⟩ := k1 i hlt
              obtain ⟨c2, c3⟩ := k2 i hlt
              obtain ⟨x, Hx⟩ : ∃ x, Hid (fs.getD i fz = x) := ⟨_, rfl⟩
              obtain ⟨y, Hy⟩ : ∃ y, Hid (fs'.getD i fz = y) := ⟨_, rfl⟩
              rw [Hx.out] at c0 c1
              rw [Hy.out] at c2 c3
              obtain ⟨x0, x1⟩ := x
              obtain ⟨y0, y1⟩ := y
              dsimp only at c0 c1 c2 c3
              clear k1 k2
              obtain ⟨bq, Eq⟩ : ∃ b, Hid (decide (x0 = y0 ∧ x1 = y1) = b) := ⟨_, rfl⟩
              have EQ : ∀ W, (Op.equalIn 10000 41 (.agg #[.string x0, .string x1]) (.agg #[.string y0, .string y1])).run Tryz.prog W = .ok bq W := fun W => (eqFd x0 x1 y0 y1 W).trans (by rw [Eq.out])
              cases bq with
              | true =>
                have NX : Hid (∀ j, j < i + 1 → fs.getD j fz = fs'.getD j fz) := fun j hj => by
                  by_cases e : j = i
                  · subst e
                    obtain ⟨h1, h2⟩ := of_decide_eq_true Eq.out
                    rw [Hx.out, Hy.out, h1, h2]
                  · exact HI.out j (by omega)
                go_wp2
                go_quiet (fail)
                go_wp2
                go_roundw
                case rel => exact ⟨i + 1, by omega, by go_num, NX.out, below_drewN HB.out _⟩
                case measure => simp [intOf]; omega
              | false =>
                have NE : Hid (b3 = false) := (by
                  rw [← E3.out]
                  apply decide_eq_false
                  intro h
                  apply of_decide_eq_false Eq.out
                  rw [h, Hy.out] at Hx
                  have := Hx.out
                  simp only [Prod.mk.injEq] at this
                  exact ⟨this.1.symm, this.2.symm⟩ : b3 = false)
                go_wp2
                go_quiet (fail)
                go_wp2
                go_ret
                rw [EV.out, NE.out]
                exact ⟨rfl, X1.out.bel.trans ((below_drewN HB.out _).mono X1.out.bel.size)⟩
            · have EE : Hid (b3 = true) := (by
                rw [← E3.out]
                apply decide_eq_true
                have h := HI.out
                have h1 := LL.out.1
                have h2 := LL.out.2
                refine List.ext_getElem (by omega) (fun j j1 j2 => ?_)
                have h3 := h j (by omega)
                simpa [List.getD, j1, j2] using h3 : b3 = true)
              go_wp2
              go_ret
              rw [EV.out, EE.out]
              exact ⟨rfl, X1.out.bel.trans (HB.out.mono X1.out.bel.size)⟩
        · have NE : Hid (b3 = false) := (by
            rw [← E3.out]
            apply decide_eq_false
            intro h
            apply hnn
            rw [LL.out.1, LL.out.2, h] : b3 = false)
          have i3 : ¬ ((fn : Int) = (fn' : Int)) := by omega
          go_wp2
          go_ret
          rw [EV.out, NE.out]
          exact ⟨rfl, X1.out.bel⟩
end Go.Proofs.YtemhhlongfabmaaGreatDoor
