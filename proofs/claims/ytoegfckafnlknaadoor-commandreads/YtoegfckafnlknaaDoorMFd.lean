import Derived.Test.YtoegfckafnlknaaDoorMFc
/- Fd -/
/- The command's reader: is anything left behind? -/
namespace Go.Proofs.YtoegfckafnlknaaDoor
open Go.ChangeShapes Go.WideShapes Go.ChangeAt Go.RowKit
set_option maxRecDepth 20000
set_option linter.unusedVariables false
set_option linter.unusedSimpArgs false
theorem end_bad {w : World} {g B : Nat} {M : Nat → Prop} {E : Nat → Addr} {a : Option Addr} {n c : Nat} {l : List Nat} {p : Nat} (hR : Hid (Rdr w g B a n c l p)) (hE : Hid (Sent w M E)) (hM : M 1) (hp : Hid (p < n)) :
    Calls Tryd.prog 74 #[.pointer (some ⟨g, 0, none⟩)] w fun e w' => e = .returned (er (E 1)) ∧ Hid (∃ j, w' = w.drewN j) := by
  obtain ⟨d, Hd⟩ : ∃ d, Hid (n - p = d) := ⟨_, rfl⟩
  have i1 : (0 : Int) < (d : Int) := by have h1 := Hd.out; have h2 := hp.out; omega
  go_enter Tryd.func74, Tryd.ntmps74
  go_upto_region 2 with (first
    | (go_at_call 85; refine (lft_n hR).mono ?_; rintro e w1 ⟨rfl, H1⟩; rw [Hd.out]))
  have ce : w1.cell? ⟨1, 0, none⟩ = some (er (E 1)) := by obtain ⟨j, hj⟩ := H1.out; rw [hj, cell_drewN]; exact hE.out.c 1 hM
  go_wp2
  go_ret
  exact ⟨rfl, H1.out⟩
end Go.Proofs.YtoegfckafnlknaaDoor

/- Fe -/
/- The command's reader: what the deferred closure does with a panic, and without one. -/
namespace Go.Proofs.YtoegfckafnlknaaDoor
open Go.ChangeShapes Go.WideShapes Go.ChangeAt Go.RowKit
set_option maxRecDepth 20000
set_option linter.unusedVariables false
set_option linter.unusedSimpArgs false
theorem ta_er (x : Addr) (w : World) : Sem.run Tryd.prog (Instr.typeAssert (er x) 20 33 true) w = .ok (.tuple #[er x, .bool true]) w := by
  first
    | kernel_rfl
    | rfl
theorem ta_nil (w : World) : Sem.run Tryd.prog (Instr.typeAssert .nilIface 20 33 true) w = .ok (.tuple #[.nilIface, .bool false]) w := by
  first
    | kernel_rfl
    | rfl
theorem ctch_bad (p x : Addr) (v0 : Value) (older : List PanicEntry) (w : World) (hc : w.cell? p = some v0) (hz : w.frozen? p = false) :
    CallsD Tryd.prog 71 #[.pointer (some p)] (.panicking ({ v := er x, recovered := false } :: older)) w fun e u' w' =>
      e = .returned (.tuple #[]) ∧ u' = .panicking ({ v := er x, recovered := true } :: older) ∧ w' = w.setCell p (er x) := by
  refine callsD_of_wpS Tryd.func71 rfl fun c₀ cs hu => ?_
  apply wpS_seq
  apply wpS_region
  simp [wpOpsS, go_sem, recoverD, hu, Tryd.ntmps71, Exit.thenS, ta_er]
  apply wpS_seq
  apply wpS_region
  simp [wpOpsS, go_sem, Exit.thenS]
  refine wpS_cond (t := true) (by simp [Act.eval, Array.replicate]) ?_
  simp only [if_true]
  apply wpS_region
  simp [wpOpsS, go_sem, hc, hz, bodyPostS, results, Tryd.results71, Array.replicate]
theorem ctch_idle (p : Addr) (w : World) :
    CallsD Tryd.prog 71 #[.pointer (some p)] .returning w fun e u' w' => e = .returned (.tuple #[]) ∧ u' = .returning ∧ w' = w := by
  refine callsD_of_wpS Tryd.func71 rfl fun c₀ cs hu => ?_
  apply wpS_seq
  apply wpS_region
  simp [wpOpsS, go_sem, recoverD, hu, Tryd.ntmps71, Exit.thenS, ta_nil]
  apply wpS_seq
  apply wpS_region
  simp [wpOpsS, go_sem, Exit.thenS]
  refine wpS_cond (t := false) (by simp [Act.eval, Array.replicate]) ?_
  simp only [Bool.false_eq_true, if_false]
  refine wpS_of_wp (wp_skip ?_)
  cases c₀
  simp_all [bodyPostS, results, Tryd.results71]
end Go.Proofs.YtoegfckafnlknaaDoor

/- Ff -/
/- Reading on plain data: what was written is read back; what is read was written so. -/
namespace Go.Proofs.YtoegfckafnlknaaDoor
set_option maxRecDepth 20000
set_option linter.unusedVariables false
set_option linter.unusedSimpArgs false
theorem nat_back : ∀ (f : Nat) (l : List Nat) (i acc N S : Nat), (∀ x ∈ l, x < 256) → nat f l i acc = (N, S, true) → ∃ m, N = acc + m * 128 ^ i ∧ S = i + (enc m).length ∧ l.drop i = enc m ++ l.drop S ∧ (i = 0 ∨ 0 < m) := by
  intro f
  induction f with
  | zero => intro l i acc N S _ h; simp [nat] at h
  | succ f ih =>
    intro l i acc N S hl h
    rw [nat] at h
    by_cases hi : i < l.length
    · rw [if_pos hi] at h
      have hg : l.getD i 0 = l[i] := by simp [List.getD, hi]
      have hd : l.drop i = l[i] :: l.drop (i + 1) := List.drop_eq_getElem_cons hi
      have hb : l[i] < 256 := hl _ (List.getElem_mem hi)
      rw [hg] at h
      by_cases hx : l[i] < 128
      · rw [if_pos hx] at h
        simp only [Prod.mk.injEq, Bool.or_eq_true, decide_eq_true_eq] at h
        obtain ⟨h1, h2, h3⟩ := h
        refine ⟨l[i], ?_, ?_, ?_, h3⟩
        · rw [← h1, Nat.mod_eq_of_lt hx]
        · rw [enc_lt hx, ← h2]; rfl
        · rw [enc_lt hx, ← h2, hd]; rfl
      · rw [if_neg hx] at h
        obtain ⟨m, h1, h2, h3, h4⟩ := ih l (i + 1) _ N S hl h
        have hm : 0 < m := by rcases h4 with h4 | h4 <;> omega
        have e : enc (l[i] % 128 + 128 * m) = l[i] :: enc m := by
          rw [enc_ge (by omega)]
          have e1 : (l[i] % 128 + 128 * m) % 128 + 128 = l[i] := by omega
          have e2 : (l[i] % 128 + 128 * m) / 128 = m := by omega
          rw [e1, e2]
        refine ⟨l[i] % 128 + 128 * m, ?_, ?_, ?_, .inr (by omega)⟩
        · rw [h1, Nat.pow_succ, Nat.add_mul, Nat.add_assoc]
          congr 2
          rw [Nat.mul_comm (128 ^ i) 128, ← Nat.mul_assoc, Nat.mul_comm m 128]
        · rw [e, h2]; simp; omega
        · rw [e, hd, h3]; rfl
    · rw [if_neg hi] at h
      simp at h
theorem rdN_back {l : List Nat} {p X q : Nat} {z : Int} (hl : ∀ x ∈ l, x < 256) (h : rdN l p z = (X, 0, q)) : l.drop p = enc X ++ l.drop q ∧ q = p + (enc X).length ∧ (X : Int) ≤ z := by
  unfold rdN at h
  split at h
  · rename_i hc
    obtain ⟨N, S, ok, hN⟩ : ∃ N S ok, nat 9 (l.drop p) 0 0 = (N, S, ok) := ⟨_, _, _, rfl⟩
    rw [hN] at h hc
    obtain ⟨rfl, hz⟩ := hc
    simp only [Prod.mk.injEq, true_and] at h
    obtain ⟨rfl, rfl⟩ := h
    obtain ⟨m, h1, h2, h3, _⟩ := nat_back 9 _ 0 0 N S (fun x hx => hl x (List.mem_of_mem_drop hx)) hN
    have e : N = m := by simpa using h1
    subst e
    refine ⟨?_, by omega, hz⟩
    rw [List.drop_zero] at h3
    rw [h3, List.drop_drop]
  · simp at h
theorem rdB_back {l L : List Nat} {p q : Nat} {z : Int} (hl : ∀ x ∈ l, x < 256) (h : rdB l p z = (L, 0, q)) : l.drop p = enc L.length ++ (L ++ l.drop q) ∧ q = p + (enc L.length).length + L.length ∧ (L.length : Int) ≤ z := by
  unfold rdB at h
  split at h
  · rename_i hc
    obtain ⟨N, S, ok, hN⟩ : ∃ N S ok, nat 9 (l.drop p) 0 0 = (N, S, ok) := ⟨_, _, _, rfl⟩
    rw [hN] at h hc
    obtain ⟨rfl, hz, hf⟩ := hc
    simp only [Prod.mk.injEq, true_and] at h
    obtain ⟨rfl, rfl⟩ := h
    obtain ⟨m, h1, h2, h3, _⟩ := nat_back 9 _ 0 0 N S (fun x hx => hl x (List.mem_of_mem_drop hx)) hN
    have e : N = m := by simpa using h1
    subst e
    have hf' : p + S + N ≤ l.length := hf
    have hL : ((l.drop (p + S)).take N).length = N := by simp; omega
    rw [hL]
    refine ⟨?_, by omega, hz⟩
    rw [List.drop_zero] at h3
    rw [h3, List.drop_drop]
    congr 1
    have e : l.drop (p + S + N) = (l.drop (p + S)).drop N := by rw [List.drop_drop]
    rw [e, List.take_append_drop]
  · simp at h
end Go.Proofs.YtoegfckafnlknaaDoor
