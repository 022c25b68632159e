/- The document's Reason. -/
import Derived.Test.YtemhhlongfabmaaGreatDoorHu
namespace Go.Proofs.YtemhhlongfabmaaGreatDoor
open Go.ChangeShapes Go.WideShapes Go.ChangeAt Go.RowKit
set_option maxRecDepth 100000
set_option linter.unusedVariables false
set_option linter.unusedSimpArgs false
def rK : List Int := [200, 204, 206, 400, 403, 404, 405, 409, 413, 416, 500, 503, 507]
def rW : List ByteArray := [⟨#[79, 75]⟩, ⟨#[78, 111, 32, 67, 111, 110, 116, 101, 110, 116]⟩, ⟨#[80, 97, 114, 116, 105, 97, 108, 32, 67, 111, 110, 116, 101, 110, 116]⟩, ⟨#[66, 97, 100, 32, 82, 101, 113, 117, 101, 115, 116]⟩, ⟨#[70, 111, 114, 98, 105, 100, 100, 101, 110]⟩, ⟨#[78, 111, 116, 32, 70, 111, 117, 110, 100]⟩, ⟨#[77, 101, 116, 104, 111, 100, 32, 78, 111, 116, 32, 65, 108, 108, 111, 119, 101, 100]⟩, ⟨#[67, 111, 110, 102, 108, 105, 99, 116]⟩, ⟨#[67, 111, 110, 116, 101, 110, 116, 32, 84, 111, 111, 32, 76, 97, 114, 103, 101]⟩, ⟨#[82, 97, 110, 103, 101, 32, 78, 111, 116, 32, 83, 97, 116, 105, 115, 102, 105, 97, 98, 108, 101]⟩, ⟨#[73, 110, 116, 101, 114, 110, 97, 108, 32, 83, 101, 114, 118, 101, 114, 32, 69, 114, 114, 111, 114]⟩, ⟨#[83, 101, 114, 118, 105, 99, 101, 32, 85, 110, 97, 118, 97, 105, 108, 97, 98, 108, 101]⟩, ⟨#[73, 110, 115, 117, 102, 102, 105, 99, 105, 101, 110, 116, 32, 83, 116, 111, 114, 97, 103, 101]⟩]
def rKc : Array Value := #[.int .i64 200, .int .i64 204, .int .i64 206, .int .i64 400, .int .i64 403, .int .i64 404, .int .i64 405, .int .i64 409, .int .i64 413, .int .i64 416, .int .i64 500, .int .i64 503, .int .i64 507]
def rWc : Array Value := #[.string ⟨#[79, 75]⟩, .string ⟨#[78, 111, 32, 67, 111, 110, 116, 101, 110, 116]⟩, .string ⟨#[80, 97, 114, 116, 105, 97, 108, 32, 67, 111, 110, 116, 101, 110, 116]⟩, .string ⟨#[66, 97, 100, 32, 82, 101, 113, 117, 101, 115, 116]⟩, .string ⟨#[70, 111, 114, 98, 105, 100, 100, 101, 110]⟩, .string ⟨#[78, 111, 116, 32, 70, 111, 117, 110, 100]⟩, .string ⟨#[77, 101, 116, 104, 111, 100, 32, 78, 111, 116, 32, 65, 108, 108, 111, 119, 101, 100]⟩, .string ⟨#[67, 111, 110, 102, 108, 105, 99, 116]⟩, .string ⟨#[67, 111, 110, 116, 101, 110, 116, 32, 84, 111, 111, 32, 76, 97, 114, 103, 101]⟩, .string ⟨#[82, 97, 110, 103, 101, 32, 78, 111, 116, 32, 83, 97, 116, 105, 115, 102, 105, 97, 98, 108, 101]⟩, .string ⟨#[73, 110, 116, 101, 114, 110, 97, 108, 32, 83, 101, 114, 118, 101, 114, 32, 69, 114, 114, 111, 114]⟩, .string ⟨#[83, 101, 114, 118, 105, 99, 101, 32, 85, 110, 97, 118, 97, 105, 108, 97, 98, 108, 101]⟩, .string ⟨#[73, 110, 115, 117, 102, 102, 105, 99, 105, 101, 110, 116, 32, 83, 116, 111, 114, 97, 103, 101]⟩]
theorem rKc_at {i : Nat} (h : i < 13) : rKc[i]? = some (.int .i64 (rK.getD i 0)) := by
  match i, h with
  | 0, _ => rfl
  | 1, _ => rfl
  | 2, _ => rfl
  | 3, _ => rfl
  | 4, _ => rfl
  | 5, _ => rfl
  | 6, _ => rfl
  | 7, _ => rfl
  | 8, _ => rfl
  | 9, _ => rfl
  | 10, _ => rfl
  | 11, _ => rfl
  | 12, _ => rfl
  | n + 13, h => exact absurd h (by omega)
theorem rWc_at {i : Nat} (h : i < 13) : rWc[i]? = some (.string (rW.getD i ⟨#[]⟩)) := by
  match i, h with
  | 0, _ => rfl
  | 1, _ => rfl
  | 2, _ => rfl
  | 3, _ => rfl
  | 4, _ => rfl
  | 5, _ => rfl
  | 6, _ => rfl
  | 7, _ => rfl
  | 8, _ => rfl
  | 9, _ => rfl
  | 10, _ => rfl
  | 11, _ => rfl
  | 12, _ => rfl
  | n + 13, h => exact absurd h (by omega)
theorem rsn_at {i : Nat} (h : i < 13) : rsn (rK.getD i 0) = rW.getD i ⟨#[]⟩ := by
  have : ∀ i < 13, rsn (rK.getD i 0) = rW.getD i ⟨#[]⟩ := by decide
  exact this i h
theorem rsn_unk {st : Int} (h : ∀ i < 13, rK.getD i 0 ≠ st) : rsn st = unk := by
  have e : ∀ p ∈ rsnL, p.1 ≠ st := by
    intro p hp
    obtain ⟨i, hi, rfl⟩ := List.mem_iff_getElem.1 hp
    have hi : i < 13 := hi
    have : ∀ i (h : i < 13), rK.getD i 0 = (rsnL[i]'h).1 := by decide
    have e := this i hi
    have e2 := h i hi
    rw [e] at e2
    exact e2
  unfold rsn
  have : rsnL.find? (fun p => decide (p.1 = st)) = none := by
    rw [List.find?_eq_none]
    intro p hp
    simpa using e p hp
  rw [this]
  rfl
set_option maxHeartbeats 4000000 in
theorem refreason_n (st : Int) (w : World) : Calls Tryz.prog 20 #[.int .i64 st] w fun e w' => e = .returned (.string (rsn st)) ∧ Hid (Below w.heap.size w w') := by
  go_enter Tryz.func20, Tryz.ntmps20
  go_upto_region 3 with (fail)
  obtain ⟨w1, H1⟩ : ∃ w1, Hid ((w.alloc (.cells #[.int .i64 200, .int .i64 204, .int .i64 206, .int .i64 400, .int .i64 403, .int .i64 404, .int .i64 405, .int .i64 409, .int .i64 413, .int .i64 416, .int .i64 500, .int .i64 503, .int .i64 507] 3)).alloc (.cells #[.string ⟨#[79, 75]⟩, .string ⟨#[78, 111, 32, 67, 111, 110, 116, 101, 110, 116]⟩, .string ⟨#[80, 97, 114, 116, 105, 97, 108, 32, 67, 111, 110, 116, 101, 110, 116]⟩, .string ⟨#[66, 97, 100, 32, 82, 101, 113, 117, 101, 115, 116]⟩, .string ⟨#[70, 111, 114, 98, 105, 100, 100, 101, 110]⟩, .string ⟨#[78, 111, 116, 32, 70, 111, 117, 110, 100]⟩, .string ⟨#[77, 101, 116, 104, 111, 100, 32, 78, 111, 116, 32, 65, 108, 108, 111, 119, 101, 100]⟩, .string ⟨#[67, 111, 110, 102, 108, 105, 99, 116]⟩, .string ⟨#[67, 111, 110, 116, 101, 110, 116, 32, 84, 111, 111, 32, 76, 97, 114, 103, 101]⟩, .string ⟨#[82, 97, 110, 103, 101, 32, 78, 111, 116, 32, 83, 97, 116, 105, 115, 102, 105, 97, 98, 108, 101]⟩, .string ⟨#[73, 110, 116, 101, 114, 110, 97, 108, 32, 83, 101, 114, 118, 101, 114, 32, 69, 114, 114, 111, 114]⟩, .string ⟨#[83, 101, 114, 118, 105, 99, 101, 32, 85, 110, 97, 118, 97, 105, 108, 97, 98, 108, 101]⟩, .string ⟨#[73, 110, 115, 117, 102, 102, 105, 99, 105, 101, 110, 116, 32, 83, 116, 111, 114, 97, 103, 101]⟩] 9) = w1) := ⟨_, rfl⟩
  rw [H1.out]
  obtain ⟨g, G⟩ : ∃ g, Hid (w.heap.size = g) := ⟨_, rfl⟩
  obtain ⟨g2, G2⟩ : ∃ g, Hid (w.heap.size + 1 = g) := ⟨_, rfl⟩
  have B1 : Hid (Below w.heap.size w w1) := by rw [← H1.out]; exact (alloc1 _ _).alloc (by simp) _
  have CK : Hid (∀ i, i < 13 → w1.cell? ⟨g, i, none⟩ = some (.int .i64 (rK.getD i 0))) := fun i hi => by
    have hb : w1.heap[g]? = some (.cells rKc 3) := by
      rw [← H1.out, ← G.out]
      have h1 := heap_alloc_new w (.cells #[.int .i64 200, .int .i64 204, .int .i64 206, .int .i64 400, .int .i64 403, .int .i64 404, .int .i64 405, .int .i64 409, .int .i64 413, .int .i64 416, .int .i64 500, .int .i64 503, .int .i64 507] 3)
      have h2 := (alloc1 (w.alloc (.cells #[.int .i64 200, .int .i64 204, .int .i64 206, .int .i64 400, .int .i64 403, .int .i64 404, .int .i64 405, .int .i64 409, .int .i64 413, .int .i64 416, .int .i64 500, .int .i64 503, .int .i64 507] 3)) (.cells #[.string ⟨#[79, 75]⟩, .string ⟨#[78, 111, 32, 67, 111, 110, 116, 101, 110, 116]⟩, .string ⟨#[80, 97, 114, 116, 105, 97, 108, 32, 67, 111, 110, 116, 101, 110, 116]⟩, .string ⟨#[66, 97, 100, 32, 82, 101, 113, 117, 101, 115, 116]⟩, .string ⟨#[70, 111, 114, 98, 105, 100, 100, 101, 110]⟩, .string ⟨#[78, 111, 116, 32, 70, 111, 117, 110, 100]⟩, .string ⟨#[77, 101, 116, 104, 111, 100, 32, 78, 111, 116, 32, 65, 108, 108, 111, 119, 101, 100]⟩, .string ⟨#[67, 111, 110, 102, 108, 105, 99, 116]⟩, .string ⟨#[67, 111, 110, 116, 101, 110, 116, 32, 84, 111, 111, 32, 76, 97, 114, 103, 101]⟩, .string ⟨#[82, 97, 110, 103, 101, 32, 78, 111, 116, 32, 83, 97, 116, 105, 115, 102, 105, 97, 98, 108, 101]⟩, .string ⟨#[73, 110, 116, 101, 114, 110, 97, 108, 32, 83, 101, 114, 118, 101, 114, 32, 69, 114, 114, 111, 114]⟩, .string ⟨#[83, 101, 114, 118, 105, 99, 101, 32, 85, 110, 97, 118, 97, 105, 108, 97, 98, 108, 101]⟩, .string ⟨#[73, 110, 115, 117, 102, 102, 105, 99, 105, 101, 110, 116, 32, 83, 116, 111, 114, 97, 103, 101]⟩] 9)).block w.heap.size (by simp)
      rw [h2]
      exact h1
    simp only [World.cell?, hb, Option.bind_some, Option.bind_eq_bind]
    exact rKc_at hi
  have CW : Hid (∀ i, i < 13 → w1.cell? ⟨g2, i, none⟩ = some (.string (rW.getD i ⟨#[]⟩))) := fun i hi => by
    have hb : w1.heap[g2]? = some (.cells rWc 9) := by
      rw [← H1.out, ← G2.out]
      have h1 := heap_alloc_new (w.alloc (.cells #[.int .i64 200, .int .i64 204, .int .i64 206, .int .i64 400, .int .i64 403, .int .i64 404, .int .i64 405, .int .i64 409, .int .i64 413, .int .i64 416, .int .i64 500, .int .i64 503, .int .i64 507] 3)) (.cells #[.string ⟨#[79, 75]⟩, .string ⟨#[78, 111, 32, 67, 111, 110, 116, 101, 110, 116]⟩, .string ⟨#[80, 97, 114, 116, 105, 97, 108, 32, 67, 111, 110, 116, 101, 110, 116]⟩, .string ⟨#[66, 97, 100, 32, 82, 101, 113, 117, 101, 115, 116]⟩, .string ⟨#[70, 111, 114, 98, 105, 100, 100, 101, 110]⟩, .string ⟨#[78, 111, 116, 32, 70, 111, 117, 110, 100]⟩, .string ⟨#[77, 101, 116, 104, 111, 100, 32, 78, 111, 116, 32, 65, 108, 108, 111, 119, 101, 100]⟩, .string ⟨#[67, 111, 110, 102, 108, 105, 99, 116]⟩, .string ⟨#[67, 111, 110, 116, 101, 110, 116, 32, 84, 111, 111, 32, 76, 97, 114, 103, 101]⟩, .string ⟨#[82, 97, 110, 103, 101, 32, 78, 111, 116, 32, 83, 97, 116, 105, 115, 102, 105, 97, 98, 108, 101]⟩, .string ⟨#[73, 110, 116, 101, 114, 110, 97, 108, 32, 83, 101, 114, 118, 101, 114, 32, 69, 114, 114, 111, 114]⟩, .string ⟨#[83, 101, 114, 118, 105, 99, 101, 32, 85, 110, 97, 118, 97, 105, 108, 97, 98, 108, 101]⟩, .string ⟨#[73, 110, 115, 117, 102, 102, 105, 99, 105, 101, 110, 116, 32, 83, 116, 111, 114, 97, 103, 101]⟩] 9)
      have e : (w.alloc (.cells #[.int .i64 200, .int .i64 204, .int .i64 206, .int .i64 400, .int .i64 403, .int .i64 404, .int .i64 405, .int .i64 409, .int .i64 413, .int .i64 416, .int .i64 500, .int .i64 503, .int .i64 507] 3)).heap.size = w.heap.size + 1 := by simp
      rw [e] at h1
      exact h1
    simp only [World.cell?, hb, Option.bind_some, Option.bind_eq_bind]
    exact rWc_at hi
  rw [G2.out, G.out]
  clear H1 G G2
  go_wp2
  go_loopw [11] (fun ti wr => ∃ i : Nat, i ≤ 13 ∧ ti = .int .i64 (i : Int) ∧ Hid (∀ j, j < i → rK.getD j 0 ≠ st) ∧ wr = w1) (fun ti _ => 13 - (intOf ti).toNat)
  case atStart => exact ⟨0, by omega, rfl, fun j hj => by omega, rfl⟩
  case round =>
    obtain ⟨i, hi, rfl, HN, rfl⟩ := hrel
    by_cases hlt : i < 13
    · have i1 : (i : Int) < 13 := by omega
      have c0 := CK.out i hlt
      have c1 := CW.out i hlt
      obtain ⟨x, Hx⟩ : ∃ x, Hid (rK.getD i 0 = x) := ⟨_, rfl⟩
      obtain ⟨y, Hy⟩ : ∃ y, Hid (rW.getD i ⟨#[]⟩ = y) := ⟨_, rfl⟩
      rw [Hx.out] at c0
      rw [Hy.out] at c1
      by_cases e : x = st
      · subst e
        have EV : Hid (rsn x = y) := (by rw [← Hx.out, ← Hy.out]; exact rsn_at hlt : rsn x = y)
        go_wp2
        go_ret
        rw [EV.out]
        exact ⟨rfl, B1.out⟩
      · have NX : Hid (∀ j, j < i + 1 → rK.getD j 0 ≠ st) := fun j hj => by
          by_cases e2 : j = i
          · subst e2; rw [Hx.out]; exact e
          · exact HN.out j (by omega)
        go_wp2
        go_roundw
        case rel => exact ⟨i + 1, by omega, by go_num, NX.out, by first | trivial | rfl⟩
        case measure => simp [intOf]; omega
    · have EV : Hid (rsn st = unk) := rsn_unk (fun j hj => HN.out j (by omega))
      go_wp2
      go_ret
      rw [EV.out]
      exact ⟨rfl, B1.out⟩
end Go.Proofs.YtemhhlongfabmaaGreatDoor
