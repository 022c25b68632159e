/- The document's network: Send, Copy. -/
import Derived.Test.YtkjebbpmafhpgaaDoorPa
namespace Go.Proofs.YtkjebbpmafhpgaaDoor
open Go.ChangeShapes Go.WideShapes Go.ChangeAt Go.RowKit
set_option maxRecDepth 20000
set_option linter.unusedVariables false
set_option linter.unusedSimpArgs false
theorem rng_take {α : Type} {E : Enc α} {w : World} {lo b n c p : Nat} {t : TypeId} {l : List α} (h : Rw w lo t E (some ⟨b, 0, none⟩) n c l) : w.rangeAt b 0 (E.fl (l.take p)) := fun j v hv => by
  rw [E.fl_take, List.getElem?_take] at hv
  split at hv
  · have hj := (List.getElem?_eq_some_iff.1 hv).1
    rw [E.fl_len, ← h.len] at hj
    rw [Nat.zero_add, h.row.cellAt j hj]; exact hv
  · cases hv
theorem rng_drop {α : Type} {E : Enc α} {w : World} {lo b n c p : Nat} {t : TypeId} {l : List α} (h : Rw w lo t E (some ⟨b, 0, none⟩) n c l) : w.rangeAt b (p * E.z) (E.fl (l.drop p)) := fun j v hv => by
  rw [E.fl_drop, List.getElem?_drop] at hv
  have hj := (List.getElem?_eq_some_iff.1 hv).1
  rw [E.fl_len, ← h.len] at hj
  rw [h.row.cellAt _ hj]; exact hv
theorem app_rw {α : Type} {E : Enc α} {w : World} {lo m n c B : Nat} {s t : TypeId} {v Z : Value} {a : Option Addr} {l0 l : List α} (hu : Tryd.prog.underlying s = some (.slice t)) (hinf : (Tryd.prog.info? t).map (fun i => (i.zero, i.size, i.bytes)) = some (some Z, E.z, B)) (hZ : Z.cells.size = E.z) (hp : 0 < E.z) (own : w.ownsRow lo t E.z v m (E.fl l0)) (hn : n = l.length) (hr : n = 0 ∨ ∃ b off, a = some ⟨b, off, none⟩ ∧ w.rangeAt b off (E.fl l)) (hz : a = none → c = 0) (hb : (m + n) * B ≤ 140737488355328) (hm : m + n ≤ maxLen) (hB : lo ≤ w.heap.size) :
    ∃ a' c' w', (Builtin.append_ #[s, s] s #[v, .slice a n c]).run Tryd.prog w = .ok (.slice a' (m + n) c') w' ∧ w'.ownsRow lo t E.z (.slice a' (m + n) c') (m + n) (E.fl (l0 ++ l)) ∧ w.grownBy w' v.ownBlock := by
  obtain ⟨i, hi, hz0, hz1, hz2⟩ := info_parts hinf
  rcases ha : a with _ | ad
  · have hn0 : n = 0 := by
      rcases hr with h0 | ⟨b, off, h1, _⟩
      · exact h0
      · rw [ha] at h1; cases h1
    have c0 := hz ha
    have hl : l = [] := List.length_eq_zero_iff.1 (by omega)
    subst hn0 c0 hl
    have hr := run_append_owned_none (P := Tryd.prog) w lo s s t i E.z hu hi v m _ own
    obtain ⟨a', c', rfl⟩ := rown_slice own
    refine ⟨a', c', w, by simpa using hr, by simpa using own, World.grownBy.refl _ _⟩
  · have hc : ∀ j u, (E.fl l)[j]? = some u → w.cell? (ad.add j) = some u := by
      intro j u hu
      rcases hr with h0 | ⟨b, off, h1, h4⟩
      · have hl : l = [] := List.length_eq_zero_iff.1 (by omega)
        subst hl
        simp [Enc.fl] at hu
      · rw [ha] at h1
        cases h1
        rw [Addr.add_mid]
        exact h4 j u hu
    obtain ⟨v', w', hrun, hown, hgr, _⟩ := run_append_own (P := Tryd.prog) w lo s s t i Z E.z B hu hi hz0 hz1 hz2 hZ hp v m (E.fl l0) own ad n c (E.fl l) (by rw [E.fl_len, hn]) hc (E.fl_oc _) hm hb hB
    obtain ⟨a', c', rfl⟩ := rown_slice hown
    exact ⟨a', c', w', hrun, by rw [E.fl_app]; exact hown, hgr⟩
theorem rsend_bad {w : World} {d : Nat} {f t : Int} {v : Value} (hf : Hid (notB f t)) :
    Calls Tryd.prog 18 #[.pointer (some ⟨d, 0, none⟩), .int .i64 f, .int .i64 t, v] w fun e w' => e = .returned (.tuple #[.int .i64 0, .int .i64 2]) ∧ w' = w := by
  have hb : ¬ ((0 ≤ f ∧ f < 16) ∧ (0 ≤ t ∧ t < 16)) := fun h => hf.out ⟨by unfold ndB; exact decide_eq_true h.1, by unfold ndB; exact decide_eq_true h.2⟩
  by_cases h1 : f < 0
  · clear hb
    go_enter Tryd.func18, Tryd.ntmps18
    go_wp2
    go_ret2
    exact ⟨rfl, rfl⟩
  · by_cases h2 : 15 < f
    · clear hb
      go_enter Tryd.func18, Tryd.ntmps18
      go_wp2
      go_ret2
      exact ⟨rfl, rfl⟩
    · by_cases h3 : t < 0
      · clear hb
        go_enter Tryd.func18, Tryd.ntmps18
        go_wp2
        go_ret2
        exact ⟨rfl, rfl⟩
      · have h4 : 15 < t := by omega
        clear hb
        go_enter Tryd.func18, Tryd.ntmps18
        go_wp2
        go_ret2
        exact ⟨rfl, rfl⟩
theorem nd_out {f : Int} (h : Hid (ndB f = true)) : ¬ f < 0 ∧ ¬ 15 < f := by
  have := h.out
  unfold ndB at this
  have := of_decide_eq_true this
  omega
theorem rsend_full {w : World} {lo d : Nat} {g f t : Int} {a : Option Addr} {X : List Lt} {ab : Option Addr} {nb cb : Nat} {l : List Nat} (hN : Hid (Rt w lo d a X g)) (hS : Hid (Sln w ab nb l)) (Hf : Hid (ndB f = true)) (Ht : Hid (ndB t = true)) (hl : Hid (4096 ≤ X.length)) :
    Calls Tryd.prog 18 #[.pointer (some ⟨d, 0, none⟩), .int .i64 f, .int .i64 t, .slice ab nb cb] w fun e w' => e = .returned (.tuple #[.int .i64 0, .int .i64 10]) ∧ Hid (Below w.heap.size w w') := by
  obtain ⟨h1, h2⟩ := nd_out Hf
  obtain ⟨h3, h4⟩ := nd_out Ht
  have CV := conv_n (k := cb) hS
  go_enter Tryd.func18, Tryd.ntmps18
  go_wp2_with (go_at_call 30; refine (rput_full hN hl).mono ?_; rintro e w1 ⟨rfl, H1⟩)
  go_ret2
  exact ⟨rfl, H1.out⟩
theorem rsend_ok {w : World} {lo d : Nat} {g f t : Int} {a : Option Addr} {X : List Lt} {ab : Option Addr} {nb cb : Nat} {l : List Nat} (hN : Hid (Rt w lo d a X g)) (hg : Hid (g < 4611686018427387904)) (hS : Hid (Sln w ab nb l)) (hs : Hid (l.length ≤ 140737488351232)) (Hf : Hid (ndB f = true)) (Ht : Hid (ndB t = true)) (hl : Hid (X.length < 4096)) :
    Calls Tryd.prog 18 #[.pointer (some ⟨d, 0, none⟩), .int .i64 f, .int .i64 t, .slice ab nb cb] w fun e w' => ∃ a', e = .returned (.tuple #[.int .i64 (g + 1), .int .i64 0]) ∧ Hid (Rt w' lo d a' (X ++ [⟨g + 1, f, t, spell l⟩]) (g + 1) ∧ NF w w' d a a') := by
  obtain ⟨h1, h2⟩ := nd_out Hf
  obtain ⟨h3, h4⟩ := nd_out Ht
  have CV := conv_n (k := cb) hS
  have SZ : Hid ((spell l).size ≤ 140737488351232) := by show _ ≤ _; rw [spell_size]; exact hs.out
  go_enter Tryd.func18, Tryd.ntmps18
  go_wp2_with (go_at_call 30; refine (rput_ok hN hl hg SZ).mono ?_; rintro e w1 ⟨a', rfl, H1⟩)
  go_ret2
  exact ⟨a', rfl, H1.out⟩
theorem fx_no {k : Int} {X : List Lt} (h : Hid (isL k X = false)) : fx k X = -1 := by unfold fx; rw [h.out]; rfl
theorem fx_yes {k : Int} {X : List Lt} {P : Nat} (h : Hid (isL k X = true)) (hp : Hid (pl k X = P)) : fx k X = (P : Int) := by unfold fx; rw [if_pos h.out, hp.out]
theorem rcopy_gone {w : World} {lo d : Nat} {g k : Int} {a : Option Addr} {X : List Lt} (hN : Hid (Rt w lo d a X g)) (hk : Hid (isL k X = false)) :
    Calls Tryd.prog 22 #[.pointer (some ⟨d, 0, none⟩), .int .i64 k] w fun e w' => e = .returned (.tuple #[.int .i64 0, .int .i64 8]) ∧ Hid (Below w.heap.size w w') := by
  go_enter Tryd.func22, Tryd.ntmps22
  go_wp2_with (go_at_call 31; refine (rfind_n k hN).mono ?_; rintro e w1 ⟨rfl, H1⟩; rw [fx_no hk])
  go_ret2
  exact ⟨rfl, H1.out⟩
set_option maxHeartbeats 1000000 in
theorem rcopy_any {w : World} {lo d : Nat} {g k : Int} {a : Option Addr} {X : List Lt} {x : Lt} {R : Ending → World → Prop} (hN : Hid (Rt w lo d a X g)) (hx : Hid (X[pl k X]? = some x)) (hk : Hid (isL k X = true)) (hR : ∀ w1, Hid (Rt w1 lo d a X g) → Hid (Below w.heap.size w w1) → Calls Tryd.prog 30 #[.pointer (some ⟨d, 0, none⟩), .agg #[.int .i64 x.no, .int .i64 x.fm, .int .i64 x.tt, .string x.bs]] w1 fun e w' => ∃ v0 v1, e = .returned (.tuple #[.int .i64 v0, .int .i64 v1]) ∧ R (.returned (.tuple #[.int .i64 v0, .int .i64 v1])) w') :
    Calls Tryd.prog 22 #[.pointer (some ⟨d, 0, none⟩), .int .i64 k] w R := by
  obtain ⟨P, HP⟩ : ∃ P, Hid (pl k X = P) := ⟨_, rfl⟩
  rw [HP.out] at hx
  have kp := (List.getElem?_eq_some_iff.1 hx.out).1
  have e0 := (List.getElem?_eq_some_iff.1 hx.out).2
  obtain ⟨n, c, h1, h2⟩ := hN.out.st
  have hn := h2.len
  obtain ⟨b, rfl, q1, q2, q3⟩ := h2.at_ kp
  have pn : P < n := by omega
  have i1 : (P : Int) < (n : Int) := by omega
  have i0 : ¬ ((P : Int) < 0) := by omega
  have LD : Hid (∀ w1, Below w.heap.size w w1 → w1.cell? ⟨d, 0, none⟩ = some (.slice (some ⟨b, 0, none⟩) n c) ∧ w1.rangeAt b (P * 4) (EL.e x)) := fun w1 hb => by
    obtain ⟨b', e', _, _, r⟩ := (h2.below hb).at_ kp
    cases e'
    rw [e0] at r
    exact ⟨(cel2 ((hb.block d (Array.getElem?_eq_some_iff.1 h1).1).trans h1)).1, r⟩
  clear q1 q2 q3 h1 h2 hn e0 kp
  go_enter Tryd.func22, Tryd.ntmps22
  go_wp2_with (first
    | (go_at_call 31; refine (rfind_n k hN).mono ?_; rintro e w1 ⟨rfl, H1⟩; rw [fx_yes hk HP]
       have N1 : Hid (Rt w1 lo d (some ⟨b, 0, none⟩) X g) := hN.out.below H1.out
       have c1 : w1.cell? ⟨d, 0, none⟩ = some (.slice (some ⟨b, 0, none⟩) n c) := (LD.out w1 H1.out).1
       have d0 : w1.cell? ⟨b, P * 4, none⟩ = some (.int .i64 x.no) := (LD.out w1 H1.out).2 0 _ rfl
       have d1 : w1.cell? ⟨b, P * 4 + 1, none⟩ = some (.int .i64 x.fm) := (LD.out w1 H1.out).2 1 _ rfl
       have d2 : w1.cell? ⟨b, P * 4 + 2, none⟩ = some (.int .i64 x.tt) := (LD.out w1 H1.out).2 2 _ rfl
       have d3 : w1.cell? ⟨b, P * 4 + 3, none⟩ = some (.string x.bs) := (LD.out w1 H1.out).2 3 _ rfl)
    | (go_at_call 30; refine (hR w1 N1 H1).mono ?_; rintro e w2 ⟨v0, v1, rfl, H2⟩))
  exact H2
theorem rcopy_full {w : World} {lo d : Nat} {g k : Int} {a : Option Addr} {X : List Lt} {x : Lt} (hN : Hid (Rt w lo d a X g)) (hx : Hid (X[pl k X]? = some x)) (hk : Hid (isL k X = true)) (hl : Hid (4096 ≤ X.length)) :
    Calls Tryd.prog 22 #[.pointer (some ⟨d, 0, none⟩), .int .i64 k] w fun e w' => e = .returned (.tuple #[.int .i64 0, .int .i64 10]) ∧ Hid (Below w.heap.size w w') :=
  rcopy_any hN hx hk fun w1 N1 H1 => (rput_full N1 hl).mono fun e w2 h => ⟨0, 10, h.1, rfl, H1.out.trans (h.2.out.mono H1.out.size)⟩
theorem rcopy_ok {w : World} {lo d : Nat} {g k : Int} {a : Option Addr} {X : List Lt} {x : Lt} (hN : Hid (Rt w lo d a X g)) (hg : Hid (g < 4611686018427387904)) (hx : Hid (X[pl k X]? = some x)) (hk : Hid (isL k X = true)) (hl : Hid (X.length < 4096)) :
    Calls Tryd.prog 22 #[.pointer (some ⟨d, 0, none⟩), .int .i64 k] w fun e w' => ∃ a', e = .returned (.tuple #[.int .i64 (g + 1), .int .i64 0]) ∧ Hid (Rt w' lo d a' (X ++ [⟨g + 1, x.fm, x.tt, x.bs⟩]) (g + 1) ∧ NF w w' d a a') :=
  rcopy_any hN hx hk fun w1 N1 H1 => (rput_ok N1 hl hg (hN.out.rs.sz x (List.mem_of_getElem? hx.out))).mono fun e w2 h => by
    obtain ⟨a', rfl, H⟩ := h
    exact ⟨g + 1, 0, rfl, a', rfl, H.out.1, (NF.below H1.out).trans hN.out.dlt H.out.2⟩
end Go.Proofs.YtkjebbpmafhpgaaDoor
