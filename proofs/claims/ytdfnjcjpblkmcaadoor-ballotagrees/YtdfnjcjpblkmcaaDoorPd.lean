/- What was counted: ballots, their ledgers and how many accepted; ledgers whose commands have no Parts. -/
import Derived.Test.YtdfnjcjpblkmcaaDoorPa
import Derived.Test.YtdfnjcjpblkmcaaDoorPb
namespace Go.Proofs.YtdfnjcjpblkmcaaDoor
open Go.ChangeShapes Go.WideShapes Go.ChangeAt Go.RowKit
set_option maxRecDepth 20000
set_option linter.unusedVariables false
set_option linter.unusedSimpArgs false
/- a ledger whose commands have no Parts: it lies in one block -/
structure Lg (w : World) (a : Option Addr) (m c : Nat) (X : List Cx) : Prop where
  cms : Cms w 0 a m X
  np : ∀ x ∈ X, x.pn = 0
  ty : ∀ q, blkOf a = some q → ∃ cs fr, w.heap[q]? = some (.cells cs 81 fr)
  cap : m ≤ c
  z : a = none → c = 0
/- blocks of commands are as they were -/
structure K81 (w w' : World) : Prop where
  size : w.heap.size ≤ w'.heap.size
  blk : ∀ (q : Nat) (cs : Array Value) (fr : Nat × Nat), w.heap[q]? = some (.cells cs 81 fr) → w'.heap[q]? = some (.cells cs 81 fr)
theorem K81.refl (w : World) : K81 w w := ⟨Nat.le_refl _, fun _ _ _ h => h⟩
theorem K81.trans {a b c : World} (h : K81 a b) (k : K81 b c) : K81 a c := ⟨Nat.le_trans h.size k.size, fun q cs fr e => k.blk q cs fr (h.blk q cs fr e)⟩
theorem K81.below {w w' : World} (h : Below w.heap.size w w') : K81 w w' := ⟨h.size, fun q cs fr e => (h.block q (Array.getElem?_eq_some_iff.1 e).1).trans e⟩
theorem K81.ch {w w' : World} {S : Nat → Prop} (h : Ch w w' S) (hs : ∀ (q : Nat) (cs : Array Value) (fr : Nat × Nat), w.heap[q]? = some (.cells cs 81 fr) → ¬ S q) : K81 w w' := ⟨h.size, fun q cs fr e => (h.block q (Array.getElem?_eq_some_iff.1 e).1 (hs q cs fr e)).trans e⟩
theorem Lg.keep {w w' : World} {a : Option Addr} {m c : Nat} {X : List Cx} (h : Lg w a m c X) (k : K81 w w') : Lg w' a m c X := by
  refine ⟨⟨h.cms.len, h.cms.sz, h.cms.row.imp id ?_, fun x hx => ⟨⟨(h.cms.ps x hx).1.len, (h.cms.ps x hx).1.sz, .inl (h.np x hx)⟩, (h.cms.ps x hx).2⟩, h.cms.st⟩, h.np, fun q hq => ?_, h.cap, h.z⟩
  · rintro ⟨b, off, h1, h2, h3, h4⟩
    obtain ⟨cs, fr, e⟩ := h.ty b (by rw [h1]; rfl)
    have e2 := k.blk b cs fr e
    refine ⟨b, off, h1, h2, Nat.lt_of_lt_of_le h3 k.size, fun j v hv => (World.cell?_of_block (a := ⟨b, off + j, none⟩) (e2.trans e.symm)).trans (h4 j v hv)⟩
  · obtain ⟨cs, fr, e⟩ := h.ty q hq
    exact ⟨cs, fr, k.blk q cs fr e⟩
theorem Lg.below {w w' : World} {a : Option Addr} {m c : Nat} {X : List Cx} (h : Lg w a m c X) (k : Below w.heap.size w w') : Lg w' a m c X := h.keep (K81.below k)
theorem Oc.lg {w : World} {lo : Nat} {a : Option Addr} {m c : Nat} {X : List Cx} (h : Oc w lo a m c X) (hp : ∀ x ∈ led X, x.ps = []) : Lg w a m c X := by
  refine ⟨h.cms.mono (Nat.zero_le _), fun x hx => ?_, fun q hq => ?_, h.cap, h.cap0⟩
  · have h1 := (h.cms.ps x hx).1.len
    rw [hp x.cm (List.mem_map_of_mem hx)] at h1
    exact h1
  · rcases h.row.2 with ⟨h1, _⟩ | ⟨g, cap, cur, h1, h2, h3, _⟩
    · simp at h1
      rw [h1.1] at hq
      cases hq
    · simp only [Value.slice.injEq] at h1
      rw [h1.1] at hq
      cases hq
      exact ⟨cur, _, h3⟩
/- what was counted -/
structure Ct where
  b : Bal
  a : Option Addr
  m : Nat
  c : Nat
  X : List Cx
  k : Nat
def xbs (L : List Ct) : List Value := L.flatMap (fun t => [.int .i64 t.b.1, .int .i64 t.b.2])
def xls (L : List Ct) : List Value := L.map (fun t => .slice t.a t.m t.c)
def xcs (L : List Ct) : List Value := L.map (fun t => .int .i64 (t.k : Int))
theorem xbs_app (l r : List Ct) : xbs (l ++ r) = xbs l ++ xbs r := by simp [xbs]
theorem xbs_at (L : List Ct) : ∀ i (hi : i < L.length), (xbs L)[i * 2]? = some (.int .i64 L[i].b.1) ∧ (xbs L)[i * 2 + 1]? = some (.int .i64 L[i].b.2) := by
  induction L with
  | nil => intro i hi; cases hi
  | cons t L ih =>
    intro i hi
    rcases i with _ | i
    · exact ⟨rfl, rfl⟩
    · have h := ih i (by simpa using hi)
      have e : (i + 1) * 2 = i * 2 + 1 + 1 := by omega
      rw [e]
      exact h
theorem xbs_len (L : List Ct) : (xbs L).length = L.length * 2 := by
  induction L with
  | nil => rfl
  | cons t L ih => show (xbs L).length + 2 = _; rw [ih, List.length_cons]; omega
theorem xbs_set (L : List Ct) (z : Nat) (t : Ct) (h : ∀ hz : z < L.length, t.b = L[z].b) : xbs (L.set z t) = xbs L := by
  induction L generalizing z with
  | nil => rfl
  | cons u L ih =>
    rcases z with _ | z
    · have e := h (by simp)
      simp only [List.getElem_cons_zero] at e
      simp [xbs, e]
    · have e := ih z (fun hz => h (by simpa using hz))
      show [_, _] ++ xbs (L.set z t) = [_, _] ++ xbs L
      rw [e]
theorem xls_set (L : List Ct) (z : Nat) (t : Ct) (h : ∀ hz : z < L.length, t.a = L[z].a ∧ t.m = L[z].m ∧ t.c = L[z].c) : xls (L.set z t) = xls L := by
  unfold xls
  rw [List.map_set]
  by_cases hz : z < L.length
  · obtain ⟨h1, h2, h3⟩ := h hz
    rw [h1, h2, h3]
    refine set_same ?_
    simp [hz]
  · rw [List.set_eq_of_length_le (by simp; omega)]
theorem xcs_set (L : List Ct) (z : Nat) (t : Ct) : xcs (L.set z t) = (xcs L).set z (.int .i64 (t.k : Int)) := by
  unfold xcs
  rw [List.map_set]
/- the last place with that ballot -/
def af (b : Bal) (L : List Ct) : Nat → Int
  | 0 => -1
  | i + 1 => match L[i]? with
    | some t => if t.b = b then (i : Int) else af b L i
    | none => af b L i
theorem af_succ {b : Bal} {L : List Ct} {i : Nat} (hi : i < L.length) : af b L (i + 1) = if L[i].b = b then (i : Int) else af b L i := by
  show (match L[i]? with | some t => if t.b = b then (i : Int) else af b L i | none => af b L i) = _
  rw [List.getElem?_eq_getElem hi]
theorem af_cases (b : Bal) (L : List Ct) : ∀ i, i ≤ L.length → af b L i = -1 ∨ ∃ z : Nat, z < i ∧ af b L i = (z : Int) ∧ ∀ hz : z < L.length, L[z].b = b := by
  intro i
  induction i with
  | zero => intro _; exact .inl rfl
  | succ i ih =>
    intro hi
    rw [af_succ (by omega)]
    by_cases e : L[i].b = b
    · rw [if_pos e]
      exact .inr ⟨i, by omega, rfl, fun _ => e⟩
    · rw [if_neg e]
      exact (ih (by omega)).imp id (fun ⟨z, h1, h2⟩ => ⟨z, by omega, h2⟩)
def upk (L : List Ct) (z : Nat) : List Ct := match L[z]? with
  | some t => L.set z { t with k := t.k + 1 }
  | none => L
theorem upk_at {L : List Ct} {z : Nat} (hz : z < L.length) : upk L z = L.set z { L[z] with k := L[z].k + 1 } := by
  unfold upk
  rw [List.getElem?_eq_getElem hz]
theorem upk_len (L : List Ct) (z : Nat) : (upk L z).length = L.length := by
  unfold upk
  split <;> simp
def bump (b : Bal) (a : Option Addr) (m c : Nat) (X : List Cx) (L : List Ct) : List Ct :=
  if af b L L.length < 0 then upk (L ++ [⟨b, a, m, c, X, 0⟩]) L.length else upk L (af b L L.length).toNat
/- in memory -/
structure Ag (w : World) (B gg : Nat) (ba la ca : Option Addr) (bc lc cc N : Nat) (L : List Ct) : Prop where
  k : w.heap[gg]? = some (.cells #[.slice ba N bc, .slice la N lc, .slice ca N cc] 63 (0, 0))
  ob : w.ownsRow B 34 2 (.slice ba N bc) N (xbs L)
  ol : w.ownsRow B 35 1 (.slice la N lc) N (xls L)
  oc : w.ownsRow B 3 1 (.slice ca N cc) N (xcs L)
theorem Ag.len {w : World} {B gg : Nat} {ba la ca : Option Addr} {bc lc cc N : Nat} {L : List Ct} (h : Ag w B gg ba la ca bc lc cc N L) : L.length = N := by
  have := h.oc.1
  unfold xcs at this
  simpa using this
theorem Ag.below {w w' : World} {B gg : Nat} {ba la ca : Option Addr} {bc lc cc N : Nat} {L : List Ct} (h : Ag w B gg ba la ca bc lc cc N L) (hb : Below w.heap.size w w') : Ag w' B gg ba la ca bc lc cc N L :=
  ⟨(hb.block gg (Array.getElem?_eq_some_iff.1 h.k).1).trans h.k, rown_bel h.ob (fun q e => hb.block q (h.ob.lt q e).2), rown_bel h.ol (fun q e => hb.block q (h.ol.lt q e).2), rown_bel h.oc (fun q e => hb.block q (h.oc.lt q e).2)⟩
theorem Ag.bat {w : World} {B gg : Nat} {ba la ca : Option Addr} {bc lc cc N : Nat} {L : List Ct} (h : Ag w B gg ba la ca bc lc cc N L) {i : Nat} (hi : i < L.length) : ∃ b o, ba = some ⟨b, o, none⟩ ∧ Hid (o = 0) ∧ w.cell? ⟨b, o + i * 2, none⟩ = some (.int .i64 L[i].b.1) ∧ w.cell? ⟨b, o + i * 2 + 1, none⟩ = some (.int .i64 L[i].b.2) := by
  have hl := h.len
  obtain ⟨g, hba, _⟩ := rown_at h.ob (by omega)
  have ho := h.ob
  rw [hba] at ho
  refine ⟨g, 0, hba, rfl, ?_, ?_⟩
  · rw [Nat.zero_add, ho.cellAt _ (by omega)]
    exact (xbs_at L i hi).1
  · rw [Nat.zero_add, ho.cellAt _ (by omega)]
    exact (xbs_at L i hi).2
theorem Ag.lat {w : World} {B gg : Nat} {ba la ca : Option Addr} {bc lc cc N : Nat} {L : List Ct} (h : Ag w B gg ba la ca bc lc cc N L) {i : Nat} (hi : i < L.length) : ∃ b o, la = some ⟨b, o, none⟩ ∧ Hid (o = 0) ∧ w.cell? ⟨b, o + i, none⟩ = some (.slice L[i].a L[i].m L[i].c) := by
  have hl := h.len
  obtain ⟨g, hba, _⟩ := rown_at h.ol (by omega)
  have ho := h.ol
  rw [hba] at ho
  refine ⟨g, 0, hba, rfl, ?_⟩
  rw [Nat.zero_add, ho.cellAt _ (by omega)]
  simp [xls, hi]
theorem Ag.cat {w : World} {B gg : Nat} {ba la ca : Option Addr} {bc lc cc N : Nat} {L : List Ct} (h : Ag w B gg ba la ca bc lc cc N L) {i : Nat} (hi : i < L.length) : ∃ b o, ca = some ⟨b, o, none⟩ ∧ Hid (o = 0) ∧ w.cell? ⟨b, o + i, none⟩ = some (.int .i64 (L[i].k : Int)) ∧ w.frozen? ⟨b, o + i, none⟩ = false := by
  have hl := h.len
  obtain ⟨g, hba, _⟩ := rown_at h.oc (by omega)
  have ho := h.oc
  rw [hba] at ho
  refine ⟨g, 0, hba, rfl, ?_, ho.frozenAt _⟩
  rw [Nat.zero_add, ho.cellAt _ (by omega)]
  simp [xcs, hi]
theorem own_blk_ty {w : World} {B t z g t' : Nat} {a : Option Addr} {n c : Nat} {xs : List Value} {cs : Array Value} {fr : Nat × Nat} (h : w.ownsRow B t z (.slice a n c) n xs) (hg : w.heap[g]? = some (.cells cs t' fr)) (e : blkOf a = some g) : t' = t := by
  rcases h.2 with ⟨h1, _⟩ | ⟨q, cap, cur, h1, h2, h3, _⟩
  · simp at h1
    rw [h1.1] at e
    cases e
  · simp only [Value.slice.injEq] at h1
    rw [h1.1] at e
    cases e
    rw [hg] at h3
    simp only [Option.some.injEq, Obj.cells.injEq] at h3
    exact h3.2.1
/- counts[z]++ -/
theorem Ag.up {w : World} {B gg b : Nat} {ba la : Option Addr} {bc lc cc N : Nat} {L : List Ct} (h : Ag w B gg ba la (some ⟨b, 0, none⟩) bc lc cc N L) {z : Nat} (hz : z < L.length) : Ag (w.setCell ⟨b, z, none⟩ (.int .i64 ((L[z].k : Int) + 1))) B gg ba la (some ⟨b, 0, none⟩) bc lc cc N (upk L z) := by
  have C := Ch.set w b z (.int .i64 ((L[z].k : Int) + 1))
  have hb : blkOf (some (⟨b, 0, none⟩ : Addr)) = some b := rfl
  have keep : ∀ {t y : Nat} {a : Option Addr} {cp : Nat} {xs : List Value}, t ≠ 3 → w.ownsRow B t y (.slice a N cp) N xs → (w.setCell ⟨b, z, none⟩ (.int .i64 ((L[z].k : Int) + 1))).ownsRow B t y (.slice a N cp) N xs := fun {t y a cp xs} ht ho => rown_bel ho (fun q e => C.block q (ho.lt q e).2 (fun e2 => rown_ne ho h.oc ht e (by rw [ownBlock_slice, e2]; rfl)))
  rw [upk_at hz]
  refine ⟨(C.block gg (Array.getElem?_eq_some_iff.1 h.k).1 (fun e => ?_)).trans h.k, ?_, ?_, ?_⟩
  · have := own_blk_ty h.oc h.k (by rw [e]; rfl)
    omega
  · rw [xbs_set _ _ _ (fun _ => rfl)]
    exact keep (t := 34) (by decide) h.ob
  · rw [xls_set _ _ _ (fun _ => ⟨rfl, rfl, rfl⟩)]
    exact keep (t := 35) (by decide) h.ol
  · rw [xcs_set]
    have := row_set h.oc z (.int .i64 ((L[z].k : Int) + 1))
    have e : ((L[z].k + 1 : Nat) : Int) = (L[z].k : Int) + 1 := by omega
    show World.ownsRow _ _ _ _ _ _ ((xcs L).set z (.int .i64 ((L[z].k + 1 : Nat) : Int)))
    rw [e]
    exact this
end Go.Proofs.YtdfnjcjpblkmcaaDoor
