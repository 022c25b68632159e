/- The network's calls: Copy, Drop. -/
import Derived.Test.YtkjebbpmafhpgaaDoorNe
import Derived.Laws.Tables
namespace Go.Proofs.YtkjebbpmafhpgaaDoor
open Go.ChangeShapes Go.WideShapes Go.ChangeAt Go.RowKit
set_option maxRecDepth 20000
set_option linter.unusedVariables false
set_option linter.unusedSimpArgs false
/- a letter as Deliver hands it out -/
def noneL : Array Value := #[.int .i64 0, .int .i64 0, .int .i64 0, .slice none 0 0]
theorem inf50 : (Tryd.prog.info? 50).map (·.size) = some 4 := by kernel_rfl
theorem res14 {fn : Func} (h : fn.results = #[.cell 4 50, .tmp 5]) (tmps : Array Value) (w : World) (g2 : Nat) (A : Array Value) (v : Value) (hp2 : tmps[4]?.getD undef = .pointer (some ⟨g2, 0, none⟩)) (hp3 : tmps[5]?.getD undef = v) (hg : w.heap[g2]? = some (.cells A 50 (0, 0))) (hA : A.size = 4) : (results fn tmps).run Tryd.prog w = .ok (.tuple #[.agg A, v]) w := by
  simp [results, h, hp2, hp3, asAddr, run_loadVar_row w g2 50 50 A (0, 0) _ hg Tryd.underlying50 rfl (by rw [hA]; exact inf50)]
theorem copy_gone {w : World} {lo d : Nat} {g k : Int} {a : Option Addr} {X : List Lt} {E : Nat → Addr} {M : Nat} (hN : Hid (Nt w lo d a X g)) (hE : Hid (Sent w M E)) (hM : 3 ≤ M) (hk : Hid (isL k X = false)) :
    Calls Tryd.prog 12 #[.pointer (some ⟨d, 0, none⟩), .int .i64 k] w fun e w' => e = .returned (.tuple #[.int .i64 0, er (E 0)]) ∧ Hid (Below w.heap.size w w') := by
  go_enter Tryd.func12, Tryd.ntmps12
  go_wp2_with (go_at_call 28; refine (find_n k hN).mono ?_; rintro e w1 ⟨rfl, H1⟩; rw [hk.out]
               have c1 : ∀ j, (w1.drewN j).cell? ⟨0, 0, none⟩ = some (er (E 0)) := fun j => by rw [cell_drewN]; exact (hE.out.below H1.out).c 0 (by omega))
  go_quiet (fail)
  go_wp2
  go_ret2
  exact ⟨rfl, below_drewN H1.out _⟩
theorem copy_full {w : World} {lo d : Nat} {g k : Int} {a : Option Addr} {X : List Lt} {E : Nat → Addr} {M : Nat} (hN : Hid (Nt w lo d a X g)) (hE : Hid (Sent w M E)) (hM : 3 ≤ M) (hk : Hid (isL k X = true)) (hl : Hid (4096 ≤ X.length)) :
    Calls Tryd.prog 12 #[.pointer (some ⟨d, 0, none⟩), .int .i64 k] w fun e w' => e = .returned (.tuple #[.int .i64 0, er (E 2)]) ∧ Hid (Below w.heap.size w w') := by
  have HF : Hid (decide (4096 ≤ X.length) = true) := decide_eq_true hl.out
  go_enter Tryd.func12, Tryd.ntmps12
  go_wp2_with (first
    | (go_at_call 28; refine (find_n k hN).mono ?_; rintro e w1 ⟨rfl, H1⟩; rw [hk.out]
       have N1 : Hid (Nt w1 lo d a X g) := hN.out.below H1.out
       have c1 : ∀ j, (w1.drewN j).cell? ⟨2, 0, none⟩ = some (er (E 2)) := fun j => by rw [cell_drewN]; exact (hE.out.below H1.out).c 2 (by omega))
    | (go_at_call 26; refine (full_n N1 HF).mono ?_; rintro e w0 ⟨rfl, h00⟩; rw [h00]; clear h00))
  go_quiet (fail)
  go_wp2
  go_ret2
  exact ⟨rfl, below_drewN H1.out _⟩
set_option maxHeartbeats 1000000 in
theorem copy_ok {w : World} {lo d : Nat} {g k : Int} {a : Option Addr} {X : List Lt} {x : Lt} (hN : Hid (Nt w lo d a X g)) (hg : Hid (g < 4611686018427387904)) (hx : Hid (X[pl k X]? = some x)) (hk : Hid (isL k X = true)) (hl : Hid (X.length < 4096)) :
    Calls Tryd.prog 12 #[.pointer (some ⟨d, 0, none⟩), .int .i64 k] w fun e w' => ∃ a', e = .returned (.tuple #[.int .i64 (g + 1), .nilIface]) ∧ Hid (Nt w' lo d a' (X ++ [⟨g + 1, x.fm, x.tt, x.bs⟩]) (g + 1) ∧ NF w w' d a a') := by
  have HF : Hid (decide (4096 ≤ X.length) = false) := decide_eq_false (by have := hl.out; omega)
  obtain ⟨P, HP⟩ : ∃ P, Hid (pl k X = P) := ⟨_, rfl⟩
  have SZ : Hid (x.bs.size ≤ 140737488351232) := hN.out.rs.sz x (List.mem_of_getElem? hx.out)
  rw [HP.out] at hx
  have kp := (List.getElem?_eq_some_iff.1 hx.out).1
  have e0 := (List.getElem?_eq_some_iff.1 hx.out).2
  obtain ⟨n, c, h1, h2⟩ := hN.out.st
  have hn := h2.len
  obtain ⟨b, rfl, q1, q2, q3⟩ := h2.at_ kp
  have pn : P < n := by omega
  have i1 : (P : Int) < (n : Int) := by omega
  have LD : Hid (∀ w1, Below w.heap.size w w1 → w1.cell? ⟨d, 0, none⟩ = some (.slice (some ⟨b, 0, none⟩) n c) ∧ w1.rangeAt b (P * 4) (EL.e x)) := fun w1 hb => by
    obtain ⟨b', e', _, _, r⟩ := (h2.below hb).at_ kp
    cases e'
    rw [e0] at r
    exact ⟨(cel2 ((hb.block d (Array.getElem?_eq_some_iff.1 h1).1).trans h1)).1, r⟩
  clear q1 q2 q3 h1 h2 hn e0 kp
  go_enter Tryd.func12, Tryd.ntmps12
  go_wp2_with (first
    | (go_at_call 28; refine (find_n k hN).mono ?_; rintro e w1 ⟨rfl, H1⟩; rw [hk.out, HP.out]
       have N1 : Hid (Nt w1 lo d (some ⟨b, 0, none⟩) X g) := hN.out.below H1.out
       have c1 : w1.cell? ⟨d, 0, none⟩ = some (.slice (some ⟨b, 0, none⟩) n c) := (LD.out w1 H1.out).1
       have d0 : w1.cell? ⟨b, P * 4, none⟩ = some (.int .i64 x.no) := (LD.out w1 H1.out).2 0 _ rfl
       have d1 : w1.cell? ⟨b, P * 4 + 1, none⟩ = some (.int .i64 x.fm) := (LD.out w1 H1.out).2 1 _ rfl
       have d2 : w1.cell? ⟨b, P * 4 + 2, none⟩ = some (.int .i64 x.tt) := (LD.out w1 H1.out).2 2 _ rfl
       have d3 : w1.cell? ⟨b, P * 4 + 3, none⟩ = some (.string x.bs) := (LD.out w1 H1.out).2 3 _ rfl)
    | (go_at_call 26; refine (full_n N1 HF).mono ?_; rintro e w0 ⟨rfl, h00⟩; rw [h00]; clear h00)
    | (go_at_call 27; refine (add_n N1 hl hg SZ).mono ?_; rintro e w2 ⟨a', rfl, H2⟩))
  go_ret2
  exact ⟨a', rfl, H2.out.1, (NF.below H1.out).trans hN.out.dlt H2.out.2⟩
theorem drop_gone {w : World} {lo d : Nat} {g k : Int} {a : Option Addr} {X : List Lt} {E : Nat → Addr} {M : Nat} (hN : Hid (Nt w lo d a X g)) (hE : Hid (Sent w M E)) (hM : 3 ≤ M) (hk : Hid (isL k X = false)) :
    Calls Tryd.prog 13 #[.pointer (some ⟨d, 0, none⟩), .int .i64 k] w fun e w' => e = .returned (er (E 0)) ∧ Hid (Below w.heap.size w w') := by
  go_enter Tryd.func13, Tryd.ntmps13
  go_wp2_with (go_at_call 28; refine (find_n k hN).mono ?_; rintro e w1 ⟨rfl, H1⟩; rw [hk.out]
               have c1 : w1.cell? ⟨0, 0, none⟩ = some (er (E 0)) := (hE.out.below H1.out).c 0 (by omega))
  go_ret
  exact ⟨rfl, H1.out⟩
theorem drop_ok {w : World} {lo d : Nat} {g k : Int} {a : Option Addr} {X : List Lt} (hN : Hid (Nt w lo d a X g)) (hk : Hid (isL k X = true)) :
    Calls Tryd.prog 13 #[.pointer (some ⟨d, 0, none⟩), .int .i64 k] w fun e w' => e = .returned .nilIface ∧ Hid (Nt w' lo d a (X.eraseIdx (pl k X)) g ∧ NF w w' d a a) := by
  obtain ⟨P, HP⟩ : ∃ P, Hid (pl k X = P) := ⟨_, rfl⟩
  have PL : P < X.length := by
    obtain ⟨x, hx, _⟩ := isL_yes hk.out
    rw [HP.out] at hx
    exact (List.getElem?_eq_some_iff.1 hx).1
  rw [HP.out]
  go_enter Tryd.func13, Tryd.ntmps13
  go_wp2_with (first
    | (go_at_call 28; refine (find_n k hN).mono ?_; rintro e w1 ⟨rfl, H1⟩; rw [hk.out, HP.out]
       have N1 : Hid (Nt w1 lo d a X g) := hN.out.below H1.out)
    | (go_at_call 29; refine (remove_n N1 PL).mono ?_; rintro e w2 ⟨rfl, H2⟩))
  go_ret
  exact ⟨rfl, H2.out.1, (NF.below H1.out).trans hN.out.dlt H2.out.2⟩
end Go.Proofs.YtkjebbpmafhpgaaDoor
