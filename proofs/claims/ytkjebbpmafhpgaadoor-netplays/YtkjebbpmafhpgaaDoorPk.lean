/- NetPlays: what the law keeps. -/
import Derived.Test.YtkjebbpmafhpgaaDoorPj
import Derived.WalkLawsBesides
namespace Go.Proofs.YtkjebbpmafhpgaaDoor
open Go.ChangeShapes Go.WideShapes Go.ChangeAt Go.RowKit
set_option maxRecDepth 20000
set_option linter.unusedVariables false
set_option linter.unusedSimpArgs false
def up {α : Type} (f : Nat → α) (k : Nat) (v : α) : Nat → α := fun i => if i = k then v else f i
theorem up_same {α : Type} (f : Nat → α) (k : Nat) (v : α) : up f k v k = v := by simp [up]
theorem up_other {α : Type} (f : Nat → α) {k l : Nat} (v : α) (h : l ≠ k) : up f k v l = f l := by simp [up, h]
/- two pairs of networks, and the law's two arrays -/
structure Sy (w0 w : World) (D F : Nat → Nat) (A B : Nat → Option Addr) (X : Nat → List Lt) (G : Nat → Int) (q3 q4 : Nat) : Prop where
  p : ∀ k, k < 2 → Pr w w0.heap.size (D k) (F k) (A k) (B k) (X k) (G k)
  ap : ∀ k l, k < 2 → l < 2 → k ≠ l → ∀ q, Pk (D k) (F k) (A k) (B k) q → ¬ Pk (D l) (F l) (A l) (B l) q
  r3 : w.heap[q3]? = some (.cells #[.pointer (some ⟨D 0, 0, none⟩), .pointer (some ⟨D 1, 0, none⟩)] 26 (0, 0))
  r4 : w.heap[q4]? = some (.cells #[.pointer (some ⟨F 0, 0, none⟩), .pointer (some ⟨F 1, 0, none⟩)] 31 (0, 0))
  bel : Below w0.heap.size w0 w
section
variable {w0 w w' : World} {D F : Nat → Nat} {A B : Nat → Option Addr} {X : Nat → List Lt} {G : Nat → Int} {q3 q4 k : Nat} {a' b' : Option Addr} {X' : List Lt} {g' : Int}
theorem Sy.below (h : Sy w0 w D F A B X G q3 q4) (hb : Below w.heap.size w w') : Sy w0 w' D F A B X G q3 q4 :=
  ⟨fun k hk => (h.p k hk).below hb, h.ap, BX_of h.r3 hb, BX_of h.r4 hb, h.bel.trans (hb.mono h.bel.size)⟩
theorem Pr.keep {lo d e : Nat} {a b : Option Addr} {X : List Lt} {g : Int} (h : Pr w lo d e a b X g) (hb : ∀ q, Pk d e a b q → w'.heap[q]? = w.heap[q]?) : Pr w' lo d e a b X g :=
  ⟨h.nt.keep fun q hq => hb q (.inl hq), h.rt.keep fun q hq => hb q (.inr hq)⟩
theorem Pr.ty {lo d e : Nat} {a b : Option Addr} {X : List Lt} {g : Int} (h : Pr w lo d e a b X g) {q : Nat} (hq : Pk d e a b q) : ∃ cur t, w.heap[q]? = some (.cells cur t (0, 0)) ∧ (t = 58 ∨ t = 71 ∨ t = 30 ∨ t = 38) := by
  rcases hq with hq | hq
  · obtain ⟨c, t, h1, h2⟩ := h.nt.ty hq
    rcases h2 with rfl | rfl
    · exact ⟨c, _, h1, .inl rfl⟩
    · exact ⟨c, _, h1, .inr (.inl rfl)⟩
  · obtain ⟨c, t, h1, h2⟩ := h.rt.ty hq
    rcases h2 with rfl | rfl
    · exact ⟨c, _, h1, .inr (.inr (.inl rfl))⟩
    · exact ⟨c, _, h1, .inr (.inr (.inr rfl))⟩
theorem Pr.blk {lo d e q : Nat} {a b a' b' : Option Addr} {X : List Lt} {g : Int} {cur : Array Value} {t : TypeId} {fr : Nat × Nat} (h : Pr w lo d e a b X g) (hf : PF w w' d e a b a' b') (hg : w.heap[q]? = some (.cells cur t fr)) (h1 : t ≠ 58) (h2 : t ≠ 71) (h3 : t ≠ 30) (h4 : t ≠ 38) : w'.heap[q]? = some (.cells cur t fr) := by
  refine (hf.ch.block q (Array.getElem?_eq_some_iff.1 hg).1 (fun hs => ?_)).trans hg
  obtain ⟨c1, t1, e1, k1⟩ := h.ty hs
  rw [hg] at e1
  simp only [Option.some.injEq, Obj.cells.injEq] at e1
  rcases k1 with rfl | rfl | rfl | rfl
  · exact h1 e1.2.1
  · exact h2 e1.2.1
  · exact h3 e1.2.1
  · exact h4 e1.2.1
theorem Sy.play (h : Sy w0 w D F A B X G q3 q4) (hk : k < 2) (hp : Pr w' w0.heap.size (D k) (F k) a' b' X' g') (hf : PF w w' (D k) (F k) (A k) (B k) a' b') : Sy w0 w' D F (up A k a') (up B k b') (up X k X') (up G k g') q3 q4 := by
  have hpk := h.p k hk
  have nw : ∀ q, Pk (D k) (F k) a' b' q → Pk (D k) (F k) (A k) (B k) q ∨ w.heap.size ≤ q := fun q hq => by
    rcases hq with (hq | hq) | (hq | hq)
    · exact .inl (.inl (.inl hq))
    · rcases hf.nwa q hq with h1 | h1
      · exact .inl (.inl (.inr h1))
      · exact .inr h1
    · exact .inl (.inr (.inl hq))
    · rcases hf.nwb q hq with h1 | h1
      · exact .inl (.inr (.inr h1))
      · exact .inr h1
  have ho : ∀ l, l < 2 → l ≠ k → Pr w' w0.heap.size (D l) (F l) (A l) (B l) (X l) (G l) := fun l hl hlk => (h.p l hl).keep fun q hq => hf.ch.block q ((h.p l hl).lt hq).2 (h.ap l k hl hk hlk q hq)
  refine ⟨fun l hl => ?_, fun l m hl hm hlm q h1 h2 => ?_, hpk.blk hf h.r3 (by decide) (by decide) (by decide) (by decide), hpk.blk hf h.r4 (by decide) (by decide) (by decide) (by decide), h.bel.trans (hf.ch.toBelow h.bel.size fun q hq hs => by have := (hpk.lt hs).1; omega)⟩
  · by_cases e : l = k
    · subst e; simp only [up_same]; exact hp
    · simp only [up_other _ _ e]; exact ho l hl e
  · by_cases e : l = k
    · subst e
      have e2 : m ≠ l := fun x => hlm x.symm
      simp only [up_same] at h1
      simp only [up_other _ _ e2] at h2
      rcases nw q h1 with h3 | h3
      · exact h.ap l m hl hm hlm q h3 h2
      · have := ((h.p m hm).lt h2).2; omega
    · simp only [up_other _ _ e] at h1
      by_cases e2 : m = k
      · subst e2
        simp only [up_same] at h2
        rcases nw q h2 with h3 | h3
        · exact h.ap l m hl hm hlm q h1 h3
        · have := ((h.p l hl).lt h1).2; omega
      · simp only [up_other _ _ e2] at h2
        exact h.ap l m hl hm hlm q h1 h2
theorem arr2 {w : World} {q t k : Nat} {D : Nat → Nat} {ty : TypeId} (h : w.heap[q]? = some (.cells #[.pointer (some ⟨D 0, 0, none⟩), .pointer (some ⟨D 1, 0, none⟩)] ty (0, 0))) (hk : k < 2) : w.cell? ⟨q, k, none⟩ = some (.pointer (some ⟨D k, 0, none⟩)) := by
  match k, hk with
  | 0, _ => simp [World.cell?, h]
  | 1, _ => simp [World.cell?, h]
end
theorem and_one (z : Int) : ∃ k : Nat, k < 2 ∧ bits .and .i64 z 1 = (k : Int) := by
  refine ⟨(BitVec.ofInt 64 z).toNat &&& 1, ?_, ?_⟩
  · have : (BitVec.ofInt 64 z).toNat &&& 1 ≤ 1 := Nat.and_le_right
    omega
  · have h : (BitVec.ofInt 64 z).toNat &&& 1 ≤ 1 := Nat.and_le_right
    show IntKind.i64.wrap ((BitVec.ofInt 64 z &&& BitVec.ofInt 64 ((1 : Nat) : Int)).toNat : Int) = _
    rw [BitVec.toNat_and, show BitVec.ofInt 64 ((1 : Nat) : Int) = 1#64 from rfl, IntKind.wrap_i64]
    have e : (1#64).toNat = 1 := rfl
    rw [e]
    omega
theorem and_three (z : Int) : ∃ k : Nat, k < 4 ∧ bits .and .i64 z 3 = (k : Int) := by
  refine ⟨(BitVec.ofInt 64 z).toNat &&& 3, ?_, ?_⟩
  · have : (BitVec.ofInt 64 z).toNat &&& 3 ≤ 3 := Nat.and_le_right
    omega
  · have h : (BitVec.ofInt 64 z).toNat &&& 3 ≤ 3 := Nat.and_le_right
    show IntKind.i64.wrap ((BitVec.ofInt 64 z &&& BitVec.ofInt 64 ((3 : Nat) : Int)).toNat : Int) = _
    rw [BitVec.toNat_and, show BitVec.ofInt 64 ((3 : Nat) : Int) = 3#64 from rfl, IntKind.wrap_i64]
    have e : (3#64).toNat = 3 := rfl
    rw [e]
    omega
end Go.Proofs.YtkjebbpmafhpgaaDoor
