/- An answer is written over (spoil). -/
import Derived.Test.YtdfnjcjpblkmcaaDoorAj
namespace Go.Proofs.YtdfnjcjpblkmcaaDoor
open Go.ChangeShapes Go.WideShapes Go.ChangeAt Go.RowKit
set_option maxRecDepth 20000
set_option linter.unusedVariables false
set_option linter.unusedSimpArgs false
/- what is left of a ledger while it is written over -/
structure Spo (w wr : World) (q n : Nat) (X : List Cx) : Prop where
  ch : Ch w wr (fp (some ⟨q, 0, none⟩) X)
  row : ∃ cs, wr.heap[q]? = some (.cells cs 81 (0, 0)) ∧ ∀ j (hj : j < X.length), cs[j * 18 + 15]? = some (.slice X[j].pa X[j].pn X[j].pc) ∧ ∃ z, cs[j * 18]? = some (.int .i64 z)
  ps : ∀ x ∈ X, 0 < x.pn → ∃ p cs, x.pa = some ⟨p, 0, none⟩ ∧ wr.heap[p]? = some (.cells cs 3 (0, 0)) ∧ x.pn ≤ cs.size
theorem Spo.of {w : World} {lo q n c : Nat} {X : List Cx} (h : Oc w lo (some ⟨q, 0, none⟩) n c X) : Spo w w q n X := by
  refine ⟨Ch.refl _ _, ?_, fun x hx h0 => ?_⟩
  · rcases h.row.2 with ⟨h1, _⟩ | ⟨g, cap, cur, h1, h2, h3, h4, h5, h6, h7⟩
    · cases h1
    · cases h1
      refine ⟨cur, h3, fun j hj => ?_⟩
      have hn := h.len
      have e : ∀ k v, k < 18 → (encX X[j])[k]? = some v → cur[j * 18 + k]? = some v := fun k v hk hv => by
        have h8 := flat_at X hj hk
        rw [hv, ← h7, List.getElem?_take_of_lt (by omega)] at h8
        simpa using h8
      exact ⟨e 15 _ (by omega) rfl, _, e 0 _ (by omega) rfl⟩
  · obtain ⟨p, h1, _, _, cs, h2, h3⟩ := rown_at (h.ps x hx).1 h0
    exact ⟨p, cs, h1, h2, by omega⟩
theorem Spo.part {w wr : World} {q n : Nat} {X : List Cx} (h : Spo w wr q n X) {x : Cx} (hx : x ∈ X) {p : Nat} (hp : x.pa = some ⟨p, 0, none⟩) {cs : Array Value} (hc : wr.heap[p]? = some (.cells cs 3 (0, 0))) (j : Nat) (v : Value) : Spo w (wr.setCell ⟨p, j, none⟩ v) q n X := by
  have hk := set_blk hc j v
  refine ⟨h.ch.trans ((Ch.set wr p j v).weak (fun k _ e => .inr ⟨x, hx, by rw [hp, e]; rfl⟩)), ?_, fun y hy h0 => ?_⟩
  · obtain ⟨rs, h1, h2⟩ := h.row
    have hne : q ≠ p := fun e => by rw [e, hc] at h1; cases h1
    exact ⟨rs, (Below.heap_setCell _ _ _ _ hne).trans h1, h2⟩
  · obtain ⟨p', cs', h1, h2, h3⟩ := h.ps y hy h0
    by_cases e : p' = p
    · subst e
      rw [hc] at h2
      cases h2
      exact ⟨p', _, h1, hk, by rw [Array.size_setIfInBounds]; exact h3⟩
    · exact ⟨p', cs', h1, (Below.heap_setCell _ _ _ _ e).trans h2, h3⟩
theorem Spo.kind {w wr : World} {q n : Nat} {X : List Cx} (h : Spo w wr q n X) (i : Nat) (z : Int) : Spo w (wr.setCell ⟨q, i * 18, none⟩ (.int .i64 z)) q n X := by
  obtain ⟨rs, h1, h2⟩ := h.row
  have hk := set_blk h1 (i * 18) (.int .i64 z)
  refine ⟨h.ch.trans ((Ch.set wr q (i * 18) _).weak (fun k _ e => .inl (by rw [e]; rfl))), ⟨_, hk, fun j hj => ?_⟩, fun y hy h0 => ?_⟩
  · obtain ⟨h3, z', h4⟩ := h2 j hj
    refine ⟨by rw [Array.getElem?_setIfInBounds_ne (by omega)]; exact h3, ?_⟩
    by_cases e : i = j
    · subst e
      exact ⟨z, by rw [Array.getElem?_setIfInBounds_self_of_lt (Array.getElem?_eq_some_iff.1 h4).1]⟩
    · exact ⟨z', by rw [Array.getElem?_setIfInBounds_ne (by omega)]; exact h4⟩
  · obtain ⟨p', cs', h5, h6, h7⟩ := h.ps y hy h0
    have hne : p' ≠ q := fun e => by rw [e, h1] at h6; cases h6
    exact ⟨p', cs', h5, (Below.heap_setCell _ _ _ _ hne).trans h6, h7⟩
set_option maxHeartbeats 4000000 in
theorem spoil_n {w : World} {lo : Nat} {a : Option Addr} {n c : Nat} {X : List Cx} (hO : Hid (Oc w lo a n c X)) :
    Calls Tryd.prog 26 #[.slice a n c] w fun e w' => e = .returned (.tuple #[]) ∧ Hid (Ch w w' (fp a X)) := by
  have hn : n ≤ 764877654082 := hO.out.sz
  have LX : Hid (n = X.length) := hO.out.len
  rcases Nat.eq_zero_or_pos n with h0 | hpos
  · subst h0
    go_enter Tryd.func26, Tryd.ntmps26
    go_wp2
    go_loopw [6] (fun ti wr => ti = .int .i64 0 ∧ wr = w) (fun ti _ => 0)
    case atStart => exact ⟨rfl, rfl⟩
    case round =>
      obtain ⟨rfl, rfl⟩ := hrel
      go_wp2
      go_end0
      exact ⟨rfl, Ch.refl _ _⟩
  · obtain ⟨q, rfl, _⟩ := rown_at hO.out.row hpos
    have S0 : Hid (Spo w w q n X) := Spo.of hO.out
    go_enter Tryd.func26, Tryd.ntmps26
    go_wp2
    go_loopw [6] (fun ti wr => ∃ i : Nat, i ≤ n ∧ ti = .int .i64 i ∧ Hid (Spo w wr q n X)) (fun ti _ => n - (intOf ti).toNat)
    case atStart => exact ⟨0, by omega, rfl, S0.out⟩
    case round =>
      obtain ⟨i, hi, rfl, HS⟩ := hrel
      by_cases hlt : i < n
      · have i3 : (i : Int) < (n : Int) := by omega
        have iX : i < X.length := by rw [← LX.out]; exact hlt
        obtain ⟨x, Hx⟩ : ∃ x, Hid (X[i] = x) := ⟨X[i], (rfl : X[i] = X[i])⟩
        have MX : Hid (x ∈ X) := by show x ∈ X; rw [← Hx.out]; exact List.getElem_mem iX
        have PN : x.pn ≤ 17592186043904 := (hO.out.ps x MX.out).2
        have RD : Hid (∀ W, Spo w W q n X → W.cell? ⟨q, i * 18 + 15, none⟩ = some (.slice x.pa x.pn x.pc) ∧ (∃ z, W.cell? ⟨q, i * 18, none⟩ = some (.int .i64 z)) ∧ W.frozen? ⟨q, i * 18, none⟩ = false) := fun W hW => by
          obtain ⟨rs, h1, h2⟩ := hW.row
          obtain ⟨h3, z, h4⟩ := h2 i iX
          rw [Hx.out] at h3
          exact ⟨by simp [World.cell?, h1, h3], ⟨z, by simp [World.cell?, h1, h4]⟩, by simp [World.frozen?, h1]⟩
        have r15 := (RD.out wr HS.out).1
        clear Hx iX
        go_wp2
        clear r15
        go_loopw [15] (fun tj wr2 => ∃ j : Nat, j ≤ x.pn ∧ tj = .int .i64 j ∧ Hid (Spo w wr2 q n X)) (fun tj _ => x.pn - (intOf tj).toNat)
        case atStart => exact ⟨0, by omega, rfl, HS.out⟩
        case round =>
          obtain ⟨j, hj, rfl, HS2⟩ := hrel
          by_cases hjl : j < x.pn
          · have j3 : (j : Int) < (x.pn : Int) := by omega
            have r15 := (RD.out _ HS2.out).1
            obtain ⟨p, cs, hpa, hk, hsz⟩ := HS2.out.ps x MX.out (by omega)
            have hj2 : j < cs.size := by omega
            obtain ⟨v, hv⟩ : ∃ v, cs[j]? = some v := ⟨cs[j], Array.getElem?_eq_getElem hj2⟩
            have cj : wr.cell? ⟨p, j, none⟩ = some v := by simp [World.cell?, hk, hv]
            have fj : wr.frozen? ⟨p, j, none⟩ = false := by simp [World.frozen?, hk]
            have NX : Hid (Spo w (wr.setCell ⟨p, j, none⟩ (.int .i64 (-9))) q n X) := HS2.out.part MX.out hpa hk j _
            rw [hpa] at r15
            clear hpa hk hsz hj2 hv
            go_wp2
            go_roundw
            case rel => exact ⟨j + 1, by omega, by go_num, NX.out⟩
            case measure => simp [intOf]; omega
          · obtain ⟨r1, ⟨z, r2⟩, r3⟩ := RD.out _ HS2.out
            have NX : Hid (Spo w (wr.setCell ⟨q, i * 18, none⟩ (.int .i64 (-9))) q n X) := HS2.out.kind i (-9)
            clear r1
            go_wp2
            go_roundw
            case rel => exact ⟨i + 1, by omega, by go_num, NX.out⟩
            case measure => simp [intOf]; omega
      · go_wp2
        go_end0
        exact ⟨rfl, HS.out.ch⟩
end Go.Proofs.YtdfnjcjpblkmcaaDoor
