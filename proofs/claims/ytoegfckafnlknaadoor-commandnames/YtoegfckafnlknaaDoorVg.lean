/- The law WireNumbers walked: it returns true, and changes nothing that was there. -/
import Derived.Test.YtoegfckafnlknaaDoorVf
import Derived.Deep.CutBlock
import Derived.Deep.DeepCutAuto
namespace Go.Proofs.YtoegfckafnlknaaDoor
set_option maxRecDepth 20000
open Go.ChangeShapes Go.WideShapes Go.ChangeAt Go.RowKit
set_option linter.unusedVariables false
set_option linter.unusedSimpArgs false
theorem i64_mask (z : Int) : ∃ m : Nat, m < 9223372036854775808 ∧ bits .and .i64 z 9223372036854775807 = (m : Int) := by
  refine ⟨(BitVec.ofInt 64 z).toNat &&& 9223372036854775807, ?_, ?_⟩
  · have : (BitVec.ofInt 64 z).toNat &&& 9223372036854775807 ≤ 9223372036854775807 := Nat.and_le_right
    omega
  · have h : (BitVec.ofInt 64 z).toNat &&& 9223372036854775807 ≤ 9223372036854775807 := Nat.and_le_right
    show IntKind.i64.wrap ((BitVec.ofInt 64 z &&& BitVec.ofInt 64 ((9223372036854775807 : Nat) : Int)).toNat : Int) = _
    rw [BitVec.toNat_and, ofInt_i64 9223372036854775807 (by omega), IntKind.wrap_i64]
    omega
theorem Sln.take {w : World} {a : Option Addr} {n : Nat} {l : List Nat} (h : Sln w a n l) {k : Nat} (hk : k ≤ n) : Sln w a k (l.take k) := by
  have hl := h.len
  refine ⟨by simp; omega, fun x hx => h.lt x (List.mem_of_mem_take hx), by have := h.sli.2.1; simp; omega, ?_⟩
  by_cases hk0 : k = 0
  · subst hk0; exact .inl (by simp)
  · have hne : l ≠ [] := by intro h0; rw [h0] at hl; simp at hl; omega
    obtain ⟨b, off, h1, h2, h3⟩ := h.sli.2.2.resolve_left hne
    refine .inr ⟨b, off, h1, h2, fun i hi => ?_⟩
    have hi2 : i < k := by simp at hi; omega
    rw [h3 i (by simp at hi; omega)]
    have : (l.take k).getD i 0 = l.getD i 0 := by simp [List.getD, List.getElem?_take, hi2]
    rw [this]
theorem Own.cap {w : World} {B : Nat} {a : Option Addr} {n c : Nat} {L : List Nat} (h : Own w B a n c L) : n ≤ c := by
  rcases h.own.2 with ⟨h1, h0⟩ | ⟨g, cap, cur, h1, _, _, h5, _⟩
  · omega
  · simp only [Value.slice.injEq] at h1
    omega
theorem Own.below {w w' : World} {B : Nat} {a : Option Addr} {n c : Nat} {L : List Nat} (h : Own w B a n c L) (hb : Below w.heap.size w w') : Own w' B a n c L := h.block (fun q hq => hb.block q (h.ge q hq).2)
theorem Wri.below {w w' : World} {g B : Nat} {a : Option Addr} {n c : Nat} {L : List Nat} {s : Bool} (h : Wri w g B a n c L s) (hb : Below w.heap.size w w') : Wri w' g B a n c L s := ⟨(hb.block g h.lt).trans h.blk, h.own.below hb, h.ne⟩
abbrev wz : Obj := .cells #[.slice none 0 0, .bool false] 107
end Go.Proofs.YtoegfckafnlknaaDoor
