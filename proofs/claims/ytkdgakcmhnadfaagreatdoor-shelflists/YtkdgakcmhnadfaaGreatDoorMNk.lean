import Derived.Test.YtkdgakcmhnadfaaGreatDoorMNd
import Derived.Test.YtkdgakcmhnadfaaGreatDoorMNj
import Derived.Test.YtkdgakcmhnadfaaGreatDoorMLe
import Derived.Test.YtkdgakcmhnadfaaGreatDoorMKh
/- Nk -/
/- ShelfLists: what lies on the shelf, and what the law keeps of it. -/
namespace Go.Proofs.YtkdgakcmhnadfaaGreatDoor
open Go.ChangeShapes Go.WideShapes Go.ChangeAt Go.RowKit
set_option maxRecDepth 20000
set_option linter.unusedVariables false
set_option linter.unusedSimpArgs false
/- the frame that is put for an id -/
def F3 (p : I3) : List Nat := frameL [1, p.1.toNat, p.2.1.toNat, p.2.2.toNat, 3, 1, 1] [7]
def fl3 (p : I3) : Fl := ⟨spell (F3 p), spell (F3 p), true⟩
theorem gd3_nat {p : I3} (h : gd3 p) : p = (((p.1.toNat : Nat) : Int), ((p.2.1.toNat : Nat) : Int), ((p.2.2.toNat : Nat) : Int)) := by
  have g := gdI_b h
  obtain ⟨a, b, c⟩ := p
  simp only at g
  simp only
  apply Prod.ext
  · show a = _; simp; omega
  · apply Prod.ext
    · show b = _; simp; omega
    · show c = _; simp; omega
theorem ok3 {p : I3} (h : gd3 p) : okN [1, ((p.1.toNat : Nat) : Int), (p.2.1.toNat : Nat), (p.2.2.toNat : Nat), ((3 : Nat) : Int), ((1 : Nat) : Int), 0] = true := by
  have g := gdI_b h
  rw [okN_iff]
  omega
theorem get3 {p : I3} (h : gd3 p) : getS (F3 p) = ([p.1.toNat, p.2.1.toNat, p.2.2.toNat, 3, 1], [7], 0) := by
  have h1 := (getS_there (a := p.1.toNat) (b := p.2.1.toNat) (c := p.2.2.toNat) (d := 3) (e := 1) (l := [7]) (ok3 h) (by decide)).1
  exact h1
/- what lies on the shelf: just these ids' frames -/
structure SLv (v : ByteArray → Option Fl) (lf : List I3) : Prop where
  val : ∀ p, gd3 p → v (nm3 p) = if p ∈ lf then some (fl3 p) else none
  all : AllB v
  nd : lf.Nodup
  gd : ∀ p ∈ lf, gd3 p
theorem slv_nil : SLv (fun _ => none) [] := ⟨fun p _ => by simp, fun t h => by simp at h, List.nodup_nil, fun p h => by cases h⟩
theorem nm3_inj {p q : I3} (hp : gd3 p) (hq : gd3 q) (h : nm3 p = nm3 q) : p = q := by
  have e := prs_nm hp
  rw [h, prs_nm hq] at e
  exact e.symm
theorem SLv.put {v : ByteArray → Option Fl} {lf : List I3} (h : SLv v lf) {p : I3} (hp : gd3 p) : SLv (upd (upd v (nmS 116 p.1 p.2.1 p.2.2) none) (nm3 p) (some (fl3 p))) (if p ∈ lf then lf else lf ++ [p]) := by
  have mem : ∀ q, q ∈ (if p ∈ lf then lf else lf ++ [p]) ↔ q ∈ lf ∨ q = p := fun q => by
    split
    · rename_i h1
      constructor
      · exact .inl
      · rintro (h2 | rfl)
        · exact h2
        · exact h1
    · simp
  refine ⟨fun q hq => ?_, fun t ht => ?_, ?_, fun q hq => ?_⟩
  · by_cases e : q = p
    · subst e
      rw [upd_same, if_pos ((mem q).2 (.inr rfl))]
    · have n1 : nm3 q ≠ nm3 p := fun h1 => e (nm3_inj hq hp h1)
      rw [upd_other _ _ n1, upd_other _ _ (ts_ne _ _ _ _ _ _), h.val q hq]
      have : q ∈ lf ↔ q ∈ (if p ∈ lf then lf else lf ++ [p]) := by rw [mem q]; simp [e]
      by_cases h2 : q ∈ lf
      · rw [if_pos h2, if_pos (this.1 h2)]
      · rw [if_neg h2, if_neg (fun h3 => h2 (this.2 h3))]
  · by_cases e : t = nm3 p
    · exact ⟨p, hp, e⟩
    · rw [upd_other _ _ e] at ht
      by_cases e2 : t = nmS 116 p.1 p.2.1 p.2.2
      · rw [e2, upd_same] at ht
        simp at ht
      · rw [upd_other _ _ e2] at ht
        exact h.all t ht
  · split
    · exact h.nd
    · rename_i h1
      rw [List.nodup_append]
      exact ⟨h.nd, by simp, fun a ha b hb e => by simp at hb; subst hb; subst e; exact h1 ha⟩
  · rcases (mem q).1 hq with h1 | rfl
    · exact h.gd q h1
    · exact hp
theorem SLv.del {v : ByteArray → Option Fl} {lf : List I3} (h : SLv v lf) {p : I3} (hp : gd3 p) : SLv (upd v (nm3 p) none) (lf.erase p) := by
  refine ⟨fun q hq => ?_, fun t ht => ?_, h.nd.erase p, fun q hq => h.gd q (List.mem_of_mem_erase hq)⟩
  · have mem : q ∈ lf.erase p ↔ q ≠ p ∧ q ∈ lf := h.nd.mem_erase_iff
    by_cases e : q = p
    · subst e
      rw [upd_same, if_neg (fun h1 => (mem.1 h1).1 rfl)]
    · rw [upd_other _ _ (fun h1 => e (nm3_inj hq hp h1)), h.val q hq]
      by_cases h2 : q ∈ lf
      · rw [if_pos h2, if_pos (mem.2 ⟨e, h2⟩)]
      · rw [if_neg h2, if_neg (fun h1 => h2 (mem.1 h1).2)]
  · by_cases e : t = nm3 p
    · rw [e, upd_same] at ht
      simp at ht
    · rw [upd_other _ _ e] at ht
      exact h.all t ht
theorem SLv.same {v : ByteArray → Option Fl} {lf l : List I3} (h : SLv v lf) (hl : IdS v l) : l.length = lf.length ∧ (∀ q, q ∈ l ↔ q ∈ lf) := by
  have mem : ∀ q, q ∈ l ↔ q ∈ lf := fun q => by
    rw [hl.mem q]
    constructor
    · rintro ⟨h1, h2⟩
      rw [h.val q h1] at h2
      by_cases h3 : q ∈ lf
      · exact h3
      · rw [if_neg h3] at h2; simp at h2
    · intro h1
      refine ⟨h.gd q h1, ?_⟩
      rw [h.val q (h.gd q h1), if_pos h1]
      rfl
  have nd : l.Nodup := hl.up.imp (fun {a b} h1 e => by subst e; rw [ltI_iff] at h1; omega)
  exact ⟨((List.perm_ext_iff_of_nodup nd h.nd).2 mem).length_eq, mem⟩
theorem erase_cut {lf : List I3} {p : I3} (h : p ∈ lf) : lf.erase p = lf.take (lf.idxOf p) ++ lf.drop (lf.idxOf p + 1) := by
  rw [List.erase_eq_eraseIdx_of_idxOf rfl, List.eraseIdx_eq_take_drop_succ]
theorem fl3_ok {p : I3} (h : gd3 p) (hlt : ∀ x ∈ F3 p, x < 256) (hn : (F3 p).length ≤ 4000) : (fl3 p).b.size ≤ 140737488352256 ∧ (getS (bytesOf (fl3 p).b)).2.2 = 0 ∧ (getS (bytesOf (fl3 p).b)).1 = [p.1.toNat, p.2.1.toNat, p.2.2.toNat, 3, 1] := by
  have e : bytesOf (fl3 p).b = F3 p := bytesOf_spell hlt
  have h1 := bytesOf_length (fl3 p).b
  rw [e] at h1
  rw [e, get3 h]
  exact ⟨by omega, rfl, rfl⟩
end Go.Proofs.YtkdgakcmhnadfaaGreatDoor
