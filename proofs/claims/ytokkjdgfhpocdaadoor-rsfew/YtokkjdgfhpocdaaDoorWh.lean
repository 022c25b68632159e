/- What the kernel of package gf does, for all rows: it adds c times a list onto a row of the call's own, and changes nothing else. -/
import Derived.Test.YtokkjdgfhpocdaaDoorWg
import Derived.StillTailTactics
namespace Go.Proofs.YtokkjdgfhpocdaaDoor
open Go.ChangeShapes Go.WideShapes Go.ChangeAt Go.RowKit
set_option linter.unusedVariables false
set_option linter.unusedSimpArgs false
def mixN (c : Nat) (L l : List Nat) : Nat → List Nat
  | 0 => L
  | k + 1 => (mixN c L l k).set k ((mixN c L l k).getD k 0 ^^^ Gm.mul c (l.getD k 0))
theorem mixN_length (c : Nat) (L l : List Nat) (k : Nat) : (mixN c L l k).length = L.length := by
  induction k with
  | zero => rfl
  | succ k ih => simp only [mixN, List.length_set]; exact ih
theorem mixN_lt {c : Nat} {L l : List Nat} (hc : c < 256) (hL : ∀ x ∈ L, x < 256) (k : Nat) : ∀ x ∈ mixN c L l k, x < 256 := by
  induction k with
  | zero => exact hL
  | succ k ih =>
    intro x hx
    simp only [mixN] at hx
    rcases List.mem_or_eq_of_mem_set hx with h | h
    · exact ih x h
    · rw [h]; exact Gm.xor_lt _ _ (getD_lt ih k) (Gm.mul_lt _ _ hc)
theorem kern_nil (g n c bb : Nat) (a : Option Addr) (cb : Nat) (w : World) :
    Calls Tryd.prog 47 #[.slice (some ⟨g, 0, none⟩) n n, .slice a 0 cb, .pointer (some ⟨bb, 0, none⟩)] w fun e w' => e = .returned (.tuple #[]) ∧ w' = w := by
  go_enter Tryd.func47, Tryd.ntmps47
  go_wp2
  refine wp_loop_rounds 1 ?_
  rw [rounds_succ]
  go_wp2
  go_end0
  exact ⟨rfl, rfl⟩
set_option maxHeartbeats 1000000 in
theorem kern_some (g n c bb : Nat) (L : List Nat) (b off cb : Nat) (l : List Nat) (w : World) (hc : c < 256) (hL : Blk w g L) (hLb : ∀ x ∈ L, x < 256) (hn : n = L.length) (h2 : ∀ x ∈ l, x < 256) (hm : n ≤ 140737488351232) (hr : Row w b off l) (hle : l.length ≤ n)
    (hbox : w.cell? ⟨bb, 0, none⟩ = some (.int .u8 (c : Int))) (hbg : bb ≠ g) (hag : b ≠ g) :
    Calls Tryd.prog 47 #[.slice (some ⟨g, 0, none⟩) n n, .slice (some ⟨b, off, none⟩) l.length cb, .pointer (some ⟨bb, 0, none⟩)] w fun e w' => e = .returned (.tuple #[]) ∧ Blk w' g (mixN c L l l.length) ∧ Oth g w w' := by
  obtain ⟨m, hm2⟩ : ∃ m, m = l.length := ⟨_, rfl⟩
  rw [← hm2] at hle ⊢
  have Hm : Hid (m = l.length) := hm2
  have Hn : Hid (n = L.length) := hn
  have HR : Hid (Row w b off l) := hr
  have HB : Hid (∀ x ∈ l, x < 256) := h2
  have HLb : Hid (∀ x ∈ L, x < 256) := hLb
  have HL : Hid (Blk w g L) := hL
  have HX : Hid (w.cell? ⟨bb, 0, none⟩ = some (.int .u8 (c : Int))) := hbox
  have Hbg : Hid (bb ≠ g) := hbg
  have Hag : Hid (b ≠ g) := hag
  clear hm2 hn hr h2 hLb hL hbox hbg hag
  go_enter Tryd.func47, Tryd.ntmps47
  go_wp2
  go_loopw [8] (fun ti wr => ∃ k : Nat, k ≤ m ∧ ti = .int .i64 k ∧ Hid (Blk wr g (mixN c L l k) ∧ Oth g w wr)) (fun ti _ => m - (intOf ti).toNat)
  case atStart => exact ⟨0, by omega, rfl, HL.out, Oth.refl _ _⟩
  case round =>
    obtain ⟨k, hk, rfl, HK⟩ := hrel
    by_cases hlt : k < m
    · obtain ⟨x, Hx⟩ : ∃ x, Hid ((mixN c L l k).getD k 0 = x) := ⟨_, rfl⟩
      obtain ⟨y, Hy⟩ : ∃ y, Hid (l.getD k 0 = y) := ⟨_, rfl⟩
      have hx : x < 256 := by rw [← Hx.out]; exact getD_lt (mixN_lt hc HLb.out k) k
      have hy : y < 256 := by rw [← Hy.out]; exact getD_lt HB.out k
      have hxy := Gm.mul_lt c y hc
      have c1 : wr.cell? ⟨g, k, none⟩ = some (.int .u8 (x : Nat)) := by rw [← Hx.out]; exact HK.out.1.cell (by rw [mixN_length, ← Hn.out]; omega)
      have c2 : wr.cell? ⟨b, off + k, none⟩ = some (.int .u8 (y : Nat)) := by rw [HK.out.2.cell (p := ⟨b, off + k, none⟩) Hag.out, ← Hy.out]; exact HR.out k (by rw [← Hm.out]; exact hlt)
      have c3 : wr.cell? ⟨bb, 0, none⟩ = some (.int .u8 (c : Int)) := by rw [HK.out.2.cell (p := ⟨bb, 0, none⟩) Hbg.out]; exact HX.out
      have c4 : wr.frozen? ⟨g, k, none⟩ = false := HK.out.1.frozen k
      have i1 : (0 : Int) ≤ (k : Int) := by omega
      have i2 : (k : Int) < (n : Int) := by omega
      have i3 : (k : Int) < (m : Int) := by omega
      go_wp2
      go_still_tail 12, (by kernel_rfl)
      still_call (mul_any c y hc hy _)
      repeat still_step
      refine wpStill_nil ?_
      go_wp2
      go_roundw
      case rel =>
        refine ⟨k + 1, by omega, by go_num, ?_⟩
        have hk2 := HK.out
        have hb := hk2.1.set k (x ^^^ Gm.mul c y)
        have he : mixN c L l (k + 1) = (mixN c L l k).set k (x ^^^ Gm.mul c y) := by rw [← Hx.out, ← Hy.out]; rfl
        rw [u8_xor_nat x (Gm.mul c y) hx hxy]
        exact ⟨by rw [he]; exact hb, (hk2.2.setCell k _).drewN 1⟩
      case measure => simp [intOf]; omega
    · go_wp2
      go_end0
      have e : k = m := by omega
      rw [e] at HK
      exact ⟨rfl, HK.out.1, HK.out.2⟩
theorem kern_any (g n c bb : Nat) (L : List Nat) (a : Option Addr) (cb : Nat) (l : List Nat) (w : World) (hc : c < 256) (hL : Blk w g L) (hLb : ∀ x ∈ L, x < 256) (hn : n = L.length) (hm : n ≤ 140737488351232) (hs : Sli w a l) (hle : l.length ≤ n)
    (hbox : w.cell? ⟨bb, 0, none⟩ = some (.int .u8 (c : Int))) (hbg : bb ≠ g) (hag : ∀ b off, l ≠ [] → a = some ⟨b, off, none⟩ → b ≠ g) :
    Calls Tryd.prog 47 #[.slice (some ⟨g, 0, none⟩) n n, .slice a l.length cb, .pointer (some ⟨bb, 0, none⟩)] w fun e w' => e = .returned (.tuple #[]) ∧ Blk w' g (mixN c L l l.length) ∧ Oth g w w' := by
  by_cases h0 : l = []
  · subst h0
    refine (kern_nil g n c bb a cb w).mono ?_
    rintro e w' ⟨rfl, rfl⟩
    exact ⟨rfl, hL, Oth.refl _ _⟩
  · obtain ⟨b, off, rfl, _, hr⟩ := hs.2.2.resolve_left h0
    exact kern_some g n c bb L b off cb l w hc hL hLb hn hs.1 hm hr hle hbox hbg (hag b off h0 rfl)
end Go.Proofs.YtokkjdgfhpocdaaDoor
