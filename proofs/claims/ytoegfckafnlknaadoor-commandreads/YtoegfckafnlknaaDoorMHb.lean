import Derived.Test.YtoegfckafnlknaaDoorMCh
/- Hb -/
/- The document's reading of a command on plain data, and that it finds what the program's finds. -/
namespace Go.Proofs.YtoegfckafnlknaaDoor
set_option maxRecDepth 20000
set_option linter.unusedVariables false
set_option linter.unusedSimpArgs false
def mkC (h bu ke m et p ps t : List Nat) : Nm := ⟨h.getD 0 0, h.getD 1 0, h.getD 2 0, h.getD 3 0, spell bu, spell ke, m.getD 0 0, m.getD 1 0, m.getD 2 0, m.getD 3 0, m.getD 4 0, m.getD 5 0, m.getD 6 0, spell et, p.getD 0 0, ps, t.getD 0 0, t.getD 1 0⟩
def refC (l : List Nat) : Option (Nm × Nat) :=
  (rp l 1099511627776 4 0).bind fun h => (rt l h.2 63).bind fun bu => (rt l bu.2 200).bind fun ke => (rp l 1099511627776 7 ke.2).bind fun m => (rt l m.2 64).bind fun et => (rp l 1099511627776 2 et.2).bind fun p => if 16 < p.1.getD 1 0 then none else (rp l 1099511627776 (p.1.getD 1 0) p.2).bind fun ps => (rp l 1099511627776 2 ps.2).bind fun t => some (mkC h.1 bu.1 ke.1 m.1 et.1 p.1 ps.1 t.1, t.2)
def refG (l : List Nat) : Option Nm := (refC l).bind fun r => if frm r.1.cm = true ∧ r.2 = l.length then some r.1 else none
theorem rp_len {l : List Nat} {z : Int} : ∀ {k p q : Nat} {S : List Nat}, rp l z k p = some (S, q) → S.length = k := by
  intro k
  induction k with
  | zero => intro p q S h; simp [rp] at h; simp [h.1.symm]
  | succ k ih =>
    intro p q S h
    rw [rp] at h
    simp only [Option.bind_eq_some_iff] at h
    obtain ⟨⟨x, p1⟩, h1, ⟨t, p2⟩, h2, h4⟩ := h
    simp only [Option.some.injEq, Prod.mk.injEq] at h4
    obtain ⟨rfl, rfl⟩ := h4
    simp [ih h2]
theorem len2 {S : List Nat} (h : S.length = 2) : ∃ a b, S = [a, b] := by
  match S, h with
  | [a, b], _ => exact ⟨a, b, rfl⟩
theorem len4 {S : List Nat} (h : S.length = 4) : ∃ a b c d, S = [a, b, c, d] := by
  match S, h with
  | [a, b, c, d], _ => exact ⟨a, b, c, d, rfl⟩
theorem len7 {S : List Nat} (h : S.length = 7) : ∃ a b c d e f g, S = [a, b, c, d, e, f, g] := by
  match S, h with
  | [a, b, c, d, e, f, g], _ => exact ⟨a, b, c, d, e, f, g, rfl⟩
theorem mem4 {z : Int} {a b c d : Nat} (h1 : (a : Int) ≤ z) (h2 : (b : Int) ≤ z) (h3 : (c : Int) ≤ z) (h4 : (d : Int) ≤ z) : ∀ y ∈ [a, b, c, d], (y : Int) ≤ z := by
  intro y hy
  simp only [List.mem_cons, List.not_mem_nil, or_false] at hy
  rcases hy with rfl | rfl | rfl | rfl <;> assumption
theorem refC_there {x : Nm} (hb : Nb x) {l t : List Nat} (h : l = x.by ++ t) : refC l = some (x, x.by.length) := by
  obtain ⟨K, I0, I1, I2, bu, ke, U0, U1, U2, B0, B1, B2, SZ, et, PT, PS, TM, DY⟩ := x
  obtain ⟨b1, b2, b3, b4, b5, b6, b7, b8, b9, b10, b11, b12, b13, b14, b15, b16, b17, b18, b19⟩ := hb
  simp only at b1 b2 b3 b4 b5 b6 b7 b8 b9 b10 b11 b12 b13 b14 b15 b16 b17 b18 b19
  have hlen : (Nm.by ⟨K, I0, I1, I2, bu, ke, U0, U1, U2, B0, B1, B2, SZ, et, PT, PS, TM, DY⟩).length = 0 + (encs [K, I0, I1, I2]).length + (enc (bl bu).length ++ bl bu).length + (enc (bl ke).length ++ bl ke).length + (encs [U0, U1, U2, B0, B1, B2, SZ]).length + (enc (bl et).length ++ bl et).length + (encs [PT, PS.length]).length + (encs PS).length + (encs [TM, DY]).length := by
    have e : ∀ (x : Nat) (l : List Nat), encs (x :: l) = enc x ++ encs l := fun _ _ => rfl
    have e0 : encs [] = [] := rfl
    simp only [Nm.by, cmdL, bl_len, List.length_append, e, e0, List.length_nil]
    omega
  have h0 : l.drop 0 = encs [K, I0, I1, I2] ++ ((enc (bl bu).length ++ bl bu) ++ ((enc (bl ke).length ++ bl ke) ++ (encs [U0, U1, U2, B0, B1, B2, SZ] ++ ((enc (bl et).length ++ bl et) ++ (encs [PT, PS.length] ++ (encs PS ++ (encs [TM, DY] ++ t))))))) := by
    rw [h]
    have e : ∀ (x : Nat) (l : List Nat), encs (x :: l) = enc x ++ encs l := fun _ _ => rfl
    have e0 : encs [] = [] := rfl
    simp only [Nm.by, cmdL, bl_len, List.append_assoc, List.drop_zero, e, e0, List.nil_append]
  obtain ⟨r1, h0⟩ := rp_there (z := 1099511627776) (by omega) _ _ _ h0 (mem4 (by omega) (by omega) (by omega) (by omega))
  obtain ⟨r2, h0⟩ := rt_there (z := 63) h0 (by rw [bl_len]; omega) (by rw [bl_len]; omega)
  obtain ⟨r3, h0⟩ := rt_there (z := 200) h0 (by rw [bl_len]; omega) (by rw [bl_len]; omega)
  obtain ⟨r4, h0⟩ := rp_there (z := 1099511627776) (by omega) _ _ _ h0 (fun y hy => by
    simp only [List.mem_cons, List.not_mem_nil, or_false] at hy
    rcases hy with rfl | rfl | rfl | rfl | rfl | rfl | rfl <;> omega)
  obtain ⟨r5, h0⟩ := rt_there (z := 64) h0 (by rw [bl_len]; omega) (by rw [bl_len]; omega)
  obtain ⟨r6, h0⟩ := rp_there (z := 1099511627776) (by omega) _ _ _ h0 (fun y hy => by
    simp only [List.mem_cons, List.not_mem_nil, or_false] at hy
    rcases hy with rfl | rfl <;> omega)
  obtain ⟨r7, h0⟩ := rp_there (z := 1099511627776) (by omega) _ _ _ h0 (fun y hy => by have := b17 y hy; omega)
  obtain ⟨r8, h0⟩ := rp_there (z := 1099511627776) (by omega) _ _ _ h0 (fun y hy => by
    simp only [List.mem_cons, List.not_mem_nil, or_false] at hy
    rcases hy with rfl | rfl <;> omega)
  have r1' : rp l 1099511627776 4 0 = _ := r1
  have r4' : rp l 1099511627776 7 _ = _ := r4
  have r6' : rp l 1099511627776 2 _ = _ := r6
  have r8' : rp l 1099511627776 2 _ = _ := r8
  unfold refC
  rw [r1', Option.bind_some]
  simp only []
  rw [r2, Option.bind_some]
  simp only []
  rw [r3, Option.bind_some]
  simp only []
  rw [r4', Option.bind_some]
  simp only []
  rw [r5, Option.bind_some]
  simp only []
  rw [r6', Option.bind_some]
  have e1 : ([PT, PS.length] : List Nat).getD 1 0 = PS.length := rfl
  simp only [e1]
  rw [if_neg (by omega), r7, Option.bind_some]
  simp only []
  rw [r8', Option.bind_some, hlen]
  simp only [mkC, spell_bl]
  rfl
theorem refC_back {l : List Nat} {q : Nat} {x : Nm} (hl : ∀ x ∈ l, x < 256) (h : refC l = some (x, q)) : l = x.by ++ l.drop q := by
  unfold refC at h
  simp only [Option.bind_eq_some_iff] at h
  obtain ⟨⟨h1, p1⟩, r1, ⟨bu, p2⟩, r2, ⟨ke, p3⟩, r3, ⟨m, p4⟩, r4, ⟨et, p5⟩, r5, ⟨pt, p6⟩, r6, h⟩ := h
  simp only at h
  split at h
  · cases h
  rename_i h16
  simp only [Option.bind_eq_some_iff] at h
  obtain ⟨⟨PS, p7⟩, r7, ⟨t, p8⟩, r8, h⟩ := h
  simp only [Option.some.injEq, Prod.mk.injEq] at h
  obtain ⟨rfl, rfl⟩ := h
  have e3 := bl_spell (rt_lt hl r2)
  have e4 := bl_spell (rt_lt hl r3)
  have e8 := bl_spell (rt_lt hl r5)
  have s3 : (spell bu).size = bu.length := by rw [← bl_len, e3]
  have s4 : (spell ke).size = ke.length := by rw [← bl_len, e4]
  have s8 : (spell et).size = et.length := by rw [← bl_len, e8]
  obtain ⟨a1, _⟩ := rp_back hl _ _ _ _ r1
  obtain ⟨a2, _⟩ := rt_back hl r2
  obtain ⟨a3, _⟩ := rt_back hl r3
  obtain ⟨a4, _⟩ := rp_back hl _ _ _ _ r4
  obtain ⟨a5, _⟩ := rt_back hl r5
  obtain ⟨a6, _⟩ := rp_back hl _ _ _ _ r6
  obtain ⟨a7, _, l7, _⟩ := rp_back hl _ _ _ _ r7
  obtain ⟨a8, _⟩ := rp_back hl _ _ _ _ r8
  obtain ⟨K, I0, I1, I2, rfl⟩ := len4 (rp_len r1)
  obtain ⟨U0, U1, U2, B0, B1, B2, SZ, rfl⟩ := len7 (rp_len r4)
  obtain ⟨PT, k, rfl⟩ := len2 (rp_len r6)
  obtain ⟨TM, DY, rfl⟩ := len2 (rp_len r8)
  have e1 : ([PT, k] : List Nat).getD 1 0 = k := rfl
  rw [e1] at l7
  subst l7
  simp only at a1 a2 a3 a4 a5 a6 a7 a8
  rw [List.drop_zero] at a1
  have e : ∀ (x : Nat) (l : List Nat), encs (x :: l) = enc x ++ encs l := fun _ _ => rfl
  have e0 : encs [] = [] := rfl
  have G : l = encs [K, I0, I1, I2] ++ ((enc bu.length ++ bu) ++ ((enc ke.length ++ ke) ++ (encs [U0, U1, U2, B0, B1, B2, SZ] ++ ((enc et.length ++ et) ++ (encs [PT, PS.length] ++ (encs PS ++ (encs [TM, DY] ++ l.drop p8))))))) := by
    rw [← a8, ← a7, ← a6, ← a5, ← a4, ← a3, ← a2]
    exact a1
  have G2 : (mkC [K, I0, I1, I2] bu ke [U0, U1, U2, B0, B1, B2, SZ] et [PT, PS.length] PS [TM, DY]).by ++ l.drop p8 = encs [K, I0, I1, I2] ++ ((enc bu.length ++ bu) ++ ((enc ke.length ++ ke) ++ (encs [U0, U1, U2, B0, B1, B2, SZ] ++ ((enc et.length ++ et) ++ (encs [PT, PS.length] ++ (encs PS ++ (encs [TM, DY] ++ l.drop p8))))))) := by
    have g : mkC [K, I0, I1, I2] bu ke [U0, U1, U2, B0, B1, B2, SZ] et [PT, PS.length] PS [TM, DY] = ⟨K, I0, I1, I2, spell bu, spell ke, U0, U1, U2, B0, B1, B2, SZ, spell et, PT, PS, TM, DY⟩ := rfl
    rw [g]
    simp only [Nm.by, cmdL, e3, e4, e8, s3, s4, s8, List.append_assoc, e, e0, List.nil_append]
  rw [G2]
  exact G
theorem mapc_inj : ∀ {a b : List Nat}, a.map (fun y : Nat => (y : Int)) = b.map (fun y : Nat => (y : Int)) → a = b
  | [], [], _ => rfl
  | [], _ :: _, h => by simp at h
  | _ :: _, [], h => by simp at h
  | x :: a, y :: b, h => by
    simp only [List.map_cons, List.cons.injEq] at h
    rw [mapc_inj h.2, show x = y by omega]
theorem cm_inj {x y : Nm} (h : x.cm = y.cm) : x = y := by
  obtain ⟨K, I0, I1, I2, bu, ke, U0, U1, U2, B0, B1, B2, SZ, et, PT, PS, TM, DY⟩ := x
  obtain ⟨K', I0', I1', I2', bu', ke', U0', U1', U2', B0', B1', B2', SZ', et', PT', PS', TM', DY'⟩ := y
  unfold Nm.cm at h
  simp only [Cm.mk.injEq] at h
  obtain ⟨h1, h2, h3, h4, h5, h6, h7, h8, h9, h10, h11, h12, h13, h14, h15, h16, h17, h18⟩ := h
  have e : PS = PS' := mapc_inj h16
  subst e h5 h6 h14
  simp only [Nm.mk.injEq, true_and]
  omega
theorem refG_back {l : List Nat} {x : Nm} (hl : ∀ x ∈ l, x < 256) (h : refG l = some x) : x.by = l ∧ frm x.cm = true ∧ Nb x := by
  unfold refG at h
  simp only [Option.bind_eq_some_iff] at h
  obtain ⟨⟨y, q⟩, h1, h2⟩ := h
  simp only at h2
  split at h2
  · rename_i hc
    cases h2
    have a := refC_back hl h1
    rw [hc.2, List.drop_length, List.append_nil] at a
    obtain ⟨z, e, hz⟩ := frm_nat hc.1
    obtain rfl := cm_inj e
    exact ⟨a.symm, hc.1, hz⟩
  · cases h2
theorem refG_there {x : Nm} (hb : Nb x) (hf : frm x.cm = true) : refG x.by = some x := by
  have h := refC_there hb (l := x.by) (t := []) (by simp)
  simp [refG, h, hf]
theorem refG_eq {l : List Nat} (hl : ∀ x ∈ l, x < 256) : refG l = rdG l := by
  rcases opt_cases (refG l) with h | ⟨x, h⟩
  · rcases opt_cases (rdG l) with h2 | ⟨y, h2⟩
    · rw [h, h2]
    · obtain ⟨a, b, c⟩ := rdG_back hl h2
      have := refG_there c b
      rw [a, h] at this
      cases this
  · obtain ⟨a, b, c⟩ := refG_back hl h
    have := rdG_there c b
    rw [a] at this
    rw [h, this]
end Go.Proofs.YtoegfckafnlknaaDoor
