/- What the Go function RsEncodes does where the numbers are right: it returns true, and changes nothing that was there. -/
import Derived.Test.YtokkjdgfhpocdaaDoorEz
import Derived.Test.YtokkjdgfhpocdaaDoorWp
namespace Go.Proofs.YtokkjdgfhpocdaaDoor
open Go.ChangeShapes Go.WideShapes Go.ChangeAt Go.RowKit
set_option linter.unusedVariables false
set_option linter.unusedSimpArgs false
/- rows of s bytes, whatever they hold, each in a block of its own -/
structure Rb (w : World) (g s N : Nat) (bs : List Nat) : Prop where
  c : ∀ t, t < N → w.cell? ⟨g, t, none⟩ = some (sv s (bs.getD t 0))
  blk : ∀ t, t < N → ∃ L, Blk w (bs.getD t 0) L ∧ L.length = s ∧ ∀ x ∈ L, x < 256
  ne : ∀ t u, t < N → u < N → t ≠ u → bs.getD t 0 ≠ bs.getD u 0
theorem Rb.apart {w : World} {g s N : Nat} {bs : List Nat} (h : Rb w g s N bs) (t : Nat) (ht : t < N) : g ≠ bs.getD t 0 := by
  intro e
  obtain ⟨L, hB, _⟩ := h.blk t ht
  have hc := h.c t ht
  rw [e] at hc
  unfold Blk at hB
  simp only [World.cell?, hB] at hc
  rcases hx : (L.map bv).toArray[t]? with _ | v
  · simp [hx] at hc
  · simp at hx
    obtain ⟨x, _, rfl⟩ := hx
    simp [bv] at hc
theorem Rb.turned {w w' : World} {g s N u : Nat} {bs : List Nat} (h : Rb w g s N bs) (hu : u < N) (T : Turned w w' (bs.getD u 0) s) : Rb w' g s N bs := by
  obtain ⟨L, hB, hl, hb, gr⟩ := T
  have keep : ∀ b, b < w.heap.size → b ≠ bs.getD u 0 → w'.heap[b]? = w.heap[b]? := fun b h1 h2 => gr.block b h1 (by intro e; simp at e; exact h2 e)
  refine ⟨fun t ht => ?_, fun t ht => ?_, h.ne⟩
  · have hc := h.c t ht
    rw [← hc]
    exact World.cell?_of_block (w := w) (keep g (cell_lt' hc) (h.apart u hu))
  · by_cases htu : t = u
    · subst htu; exact ⟨L, hB, hl, hb⟩
    · obtain ⟨L', hB', r⟩ := h.blk t ht
      exact ⟨L', (keep _ hB'.lt (h.ne t u ht hu htu)).trans hB', r⟩
theorem enc_rb {w w' : World} {g cap k m : Nat} {bs data : List Nat} (h : Enc w w' g cap k m bs data) : Rb w' g (sz k data.length) (k + m) bs := by
  have hl := h.shs.len
  have ls : (shards k m data).length = k + m := by simp [shards]
  refine ⟨fun t ht => ?_, fun t ht => ⟨_, h.shs.blk t (by omega), h.shs.rl t (by omega), h.shs.lt t (by omega)⟩, fun t u ht hu hne e => ?_⟩
  · have hi2 : t < bs.length := by omega
    have h3 := h.own.cells (g := g) rfl t (sv (sz k data.length) (bs.getD t 0)) (by
      rw [List.getElem?_map, List.getElem?_eq_getElem hi2]
      simp [List.getD, hi2])
    have h4 : (⟨g, 0, none⟩ : Addr).add t = ⟨g, t, none⟩ := by
      by_cases hi0 : t = 0
      · subst hi0; simp [Addr.add]
      · simp [Addr.add, hi0]
    rw [h4] at h3
    exact h3
  · have t1 : t < bs.length := by omega
    have u1 : u < bs.length := by omega
    have e2 : bs[t] = bs[u] := by simpa [List.getD, t1, u1] using e
    exact hne ((List.getElem_inj h.shs.nd).1 e2)
theorem Rb.below {w w' : World} {g s N : Nat} {bs : List Nat} (h : Rb w g s N bs) (hb : Below w.heap.size w w') : Rb w' g s N bs :=
  ⟨fun t ht => (hb.cell (p := ⟨g, t, none⟩) (cell_lt' (h.c t ht))).trans (h.c t ht), fun t ht => by
    obtain ⟨L, h1, h2⟩ := h.blk t ht
    exact ⟨L, h1.below hb h1.lt, h2⟩, h.ne⟩
/- all that the loop keeps -/
structure Kp (w0 wr : World) (g s N gi n : Nat) (bs data : List Nat) (a : Option Addr) : Prop where
  rb : Rb wr g s N bs
  inb : Blk wr gi (data ++ marks)
  sl : Sln wr a n data
  new : ∀ t, t < N → w0.heap.size ≤ bs.getD t 0 ∧ gi ≠ bs.getD t 0
  bel : Below w0.heap.size w0 wr
theorem Kp.turned {w0 w w' : World} {g s N gi n u : Nat} {bs data : List Nat} {a : Option Addr} (h : Kp w0 w g s N gi n bs data a) (h0 : Sln w0 a n data) (hu : u < N) (T : Turned w w' (bs.getD u 0) s) : Kp w0 w' g s N gi n bs data a := by
  have T2 := T
  obtain ⟨L, hB, hl, hb, gr⟩ := T2
  have nb := h.new u hu
  have bel : Below w0.heap.size w0 w' := h.bel.grown gr h.bel.size (fun y e => by simp only [Option.some.injEq] at e; omega)
  exact ⟨h.rb.turned hu T, (gr.block gi h.inb.lt (by intro e; simp only [Option.some.injEq] at e; exact nb.2 e)).trans h.inb, h0.below bel, h.new, bel⟩
end Go.Proofs.YtokkjdgfhpocdaaDoor
