/- The network's calls: New, remove, Send. -/
import Derived.Test.YtkjebbpmafhpgaaDoorNd
namespace Go.Proofs.YtkjebbpmafhpgaaDoor
open Go.ChangeShapes Go.WideShapes Go.ChangeAt Go.RowKit
set_option maxRecDepth 20000
set_option linter.unusedVariables false
set_option linter.unusedSimpArgs false
theorem new_n (w : World) (lo : Nat) (hlo : lo ≤ w.heap.size) : Calls Tryd.prog 7 #[] w fun e w' => ∃ d, e = .returned (.pointer (some ⟨d, 0, none⟩)) ∧ Hid (Nt w' lo d none [] 0 ∧ Below w.heap.size w w' ∧ d = w.heap.size) := by
  go_enter Tryd.func7, Tryd.ntmps7
  go_wp2
  go_ret
  refine ⟨w.heap.size, rfl, ⟨⟨0, 0, heap_alloc_new w _, Rw.nil _ lo 71 EL (by decide)⟩, hlo, ⟨List.Pairwise.nil, (fun x hx => by cases hx), fun x hx => by cases hx⟩, by simp, by omega⟩, alloc1 w _, rfl⟩
set_option maxHeartbeats 1000000 in
theorem remove_n {w : World} {lo d : Nat} {g : Int} {a : Option Addr} {X : List Lt} {p : Nat} (hN : Hid (Nt w lo d a X g)) (hp : p < X.length) :
    Calls Tryd.prog 29 #[.pointer (some ⟨d, 0, none⟩), .int .i64 (p : Int)] w fun e w' => e = .returned (.tuple #[]) ∧ Hid (Nt w' lo d a (X.eraseIdx p) g ∧ NF w w' d a a) := by
  obtain ⟨n, c, h1, h2⟩ := hN.out.st
  have hl := h2.len
  obtain ⟨b, rfl, _, _, _⟩ := h2.at_ hp
  have c0 : w.cell? ⟨d, 0, none⟩ = some (.slice (some ⟨b, 0, none⟩) n c) := (cel2 h1).1
  have A : Hid (Rw w lo 71 EL (some ⟨b, 0, none⟩) n c X) := h2
  have nb : n ≤ 4096 := by rw [hl]; exact hN.out.ln
  have pn : p < n := by omega
  have D1 : Hid (w.heap[d]? = some (.cells #[.slice (some ⟨b, 0, none⟩) n c, .int .i64 g] 58 (0, 0))) := h1
  have DB : Hid (d ≠ b) := fun e => (hN.out.alt (q := b) rfl).2.2 e.symm
  clear h1 h2 hl
  have wq : IntKind.i64.wrap ((p : Int) + 1) = (p : Int) + 1 := by rw [IntKind.wrap_i64]; omega
  go_enter Tryd.func29, Tryd.ntmps29
  go_wp2_with (go_at_call 37; refine (del_L A nb pn).mono ?_; rintro e w1 ⟨rfl, H1⟩
               have D2 : Hid (w1.heap[d]? = some (.cells #[.slice (some ⟨b, 0, none⟩) n c, .int .i64 g] 58 (0, 0))) := (H1.out.2.block d (Array.getElem?_eq_some_iff.1 D1.out).1 DB.out).trans D1.out
               have c2 : w1.cell? ⟨d, 0, none⟩ = some (.slice (some ⟨b, 0, none⟩) n c) := (cel2 D2.out).1
               have f2 : w1.frozen? ⟨d, 0, none⟩ = false := by simp [World.frozen?, D2.out])
  go_end0
  have F1 : (w1.setCell ⟨d, 0, none⟩ (.slice (some ⟨b, 0, none⟩) (n - 1) c)).heap[d]? = some (.cells #[.slice (some ⟨b, 0, none⟩) (n - 1) c, .int .i64 g] 58 (0, 0)) := set_blk D2.out 0 _
  refine ⟨rfl, ⟨⟨n - 1, c, F1, H1.out.1.keep1 (fun q e => Below.heap_setCell _ _ _ _ (by cases e; exact Ne.symm DB.out))⟩, hN.out.dl, ris_del p hN.out.rs, Nat.le_trans (List.length_eraseIdx_le ..) hN.out.ln, hN.out.gz⟩, ?_, fun q e => .inl e⟩
  exact (H1.out.2.then (Ch.set w1 d 0 _) (fun q _ h => .inr (by rw [h]; rfl)) (fun q _ h => .inl h))
def notB (f t : Int) : Prop := ¬ (ndB f = true ∧ ndB t = true)
theorem send_bad {w : World} {lo d : Nat} {g f t : Int} {a : Option Addr} {X : List Lt} {E : Nat → Addr} {M : Nat} {v : Value} (hE : Hid (Sent w M E)) (hM : 3 ≤ M) (hf : Hid (notB f t)) :
    Calls Tryd.prog 10 #[.pointer (some ⟨d, 0, none⟩), .int .i64 f, .int .i64 t, v] w fun e w' => e = .returned (.tuple #[.int .i64 0, er (E 1)]) ∧ Hid (Below w.heap.size w w') := by
  have c1 : ∀ j, (w.drewN j).cell? ⟨1, 0, none⟩ = some (er (E 1)) := fun j => by rw [cell_drewN]; exact hE.out.c 1 (by omega)
  have c0 : w.cell? ⟨1, 0, none⟩ = some (er (E 1)) := hE.out.c 1 (by omega)
  have cd : w.drew.cell? ⟨1, 0, none⟩ = some (er (E 1)) := c1 1
  rcases hfb : ndB f with _ | _
  · have Hf : Hid (ndB f = false) := hfb
    clear hfb
    go_enter Tryd.func10, Tryd.ntmps10
    go_wp2_with (go_at_call 25; refine (node_n (by assumption)).mono ?_; rintro e w0 ⟨rfl, h00⟩; rw [h00]; clear h00)
    go_quiet (fail)
    go_wp2
    go_ret2
    exact ⟨rfl, below_drewN (Below.refl _ _) _⟩
  · have Hf : Hid (ndB f = true) := hfb
    have Ht : Hid (ndB t = false) := by
      rcases htb : ndB t with _ | _
      · rfl
      · exact absurd ⟨hfb, htb⟩ hf.out
    clear hfb
    go_enter Tryd.func10, Tryd.ntmps10
    go_wp2_with (go_at_call 25; refine (node_n (by assumption)).mono ?_; rintro e w0 ⟨rfl, h00⟩; rw [h00]; clear h00)
    go_quiet (fail)
    go_wp2
    go_ret2
    exact ⟨rfl, below_drewN (Below.refl _ _) _⟩
theorem send_full {w : World} {lo d : Nat} {g f t : Int} {a : Option Addr} {X : List Lt} {E : Nat → Addr} {M : Nat} {v : Value} (hN : Hid (Nt w lo d a X g)) (hE : Hid (Sent w M E)) (hM : 3 ≤ M) (Hf : Hid (ndB f = true)) (Ht : Hid (ndB t = true)) (hl : Hid (4096 ≤ X.length)) :
    Calls Tryd.prog 10 #[.pointer (some ⟨d, 0, none⟩), .int .i64 f, .int .i64 t, v] w fun e w' => e = .returned (.tuple #[.int .i64 0, er (E 2)]) ∧ Hid (Below w.heap.size w w') := by
  have c0 : w.cell? ⟨2, 0, none⟩ = some (er (E 2)) := hE.out.c 2 (by omega)
  have c1 : ∀ j, (w.drewN j).cell? ⟨2, 0, none⟩ = some (er (E 2)) := fun j => by rw [cell_drewN]; exact c0
  have cd : w.drew.cell? ⟨2, 0, none⟩ = some (er (E 2)) := c1 1
  have HF : Hid (decide (4096 ≤ X.length) = true) := decide_eq_true hl.out
  go_enter Tryd.func10, Tryd.ntmps10
  go_wp2_with (first
    | (go_at_call 25; refine (node_n (by assumption)).mono ?_; rintro e w0 ⟨rfl, h00⟩; rw [h00]; clear h00)
    | (go_at_call 26; refine (full_n hN HF).mono ?_; rintro e w0 ⟨rfl, h00⟩; rw [h00]; clear h00))
  go_quiet (fail)
  go_wp2
  go_ret2
  exact ⟨rfl, below_drewN (Below.refl _ _) _⟩
theorem send_ok {w : World} {lo d : Nat} {g f t : Int} {a : Option Addr} {X : List Lt} {ab : Option Addr} {nb cb : Nat} {l : List Nat} (hN : Hid (Nt w lo d a X g)) (hg : Hid (g < 4611686018427387904)) (hS : Hid (Sln w ab nb l)) (hs : Hid (l.length ≤ 140737488351232)) (Hf : Hid (ndB f = true)) (Ht : Hid (ndB t = true)) (hl : Hid (X.length < 4096)) :
    Calls Tryd.prog 10 #[.pointer (some ⟨d, 0, none⟩), .int .i64 f, .int .i64 t, .slice ab nb cb] w fun e w' => ∃ a', e = .returned (.tuple #[.int .i64 (g + 1), .nilIface]) ∧ Hid (Nt w' lo d a' (X ++ [⟨g + 1, f, t, spell l⟩]) (g + 1) ∧ NF w w' d a a') := by
  have HF : Hid (decide (4096 ≤ X.length) = false) := decide_eq_false (by have := hl.out; omega)
  have CV := conv_n (k := cb) hS
  have SZ : Hid ((spell l).size ≤ 140737488351232) := by show _ ≤ _; rw [spell_size]; exact hs.out
  go_enter Tryd.func10, Tryd.ntmps10
  go_wp2_with (first
    | (go_at_call 25; refine (node_n (by assumption)).mono ?_; rintro e w0 ⟨rfl, h00⟩; rw [h00]; clear h00)
    | (go_at_call 26; refine (full_n hN HF).mono ?_; rintro e w0 ⟨rfl, h00⟩; rw [h00]; clear h00)
    | (go_at_call 27; refine (add_n hN hl hg SZ).mono ?_; rintro e w1 ⟨a', rfl, H1⟩))
  go_ret2
  exact ⟨a', rfl, H1.out⟩
end Go.Proofs.YtkjebbpmafhpgaaDoor
