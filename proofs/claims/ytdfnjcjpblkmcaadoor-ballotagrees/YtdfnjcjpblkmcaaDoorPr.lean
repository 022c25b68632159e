/- The law's loop over rounds: its state, and what each step leaves of it. -/
import Derived.Test.YtdfnjcjpblkmcaaDoorPq
import Derived.Test.YtdfnjcjpblkmcaaDoorPo
namespace Go.Proofs.YtdfnjcjpblkmcaaDoor
open Go.ChangeShapes Go.WideShapes Go.ChangeAt Go.RowKit
set_option maxRecDepth 20000
set_option linter.unusedVariables false
set_option linter.unusedSimpArgs false
def xus (U : List Bal) : List Value := U.flatMap (fun b => [.int .i64 b.1, .int .i64 b.2])
theorem xus_app (l r : List Bal) : xus (l ++ r) = xus l ++ xus r := by simp [xus]
theorem xus_at (U : List Bal) : ∀ i (hi : i < U.length), (xus U)[i * 2]? = some (.int .i64 U[i].1) ∧ (xus U)[i * 2 + 1]? = some (.int .i64 U[i].2) := by
  induction U with
  | nil => intro i hi; cases hi
  | cons t U ih =>
    intro i hi
    rcases i with _ | i
    · exact ⟨rfl, rfl⟩
    · have h := ih i (by simpa using hi)
      have e : (i + 1) * 2 = i * 2 + 1 + 1 := by omega
      rw [e]
      exact h
theorem xus_len (U : List Bal) : (xus U).length = U.length * 2 := by
  induction U with
  | nil => rfl
  | cons t U ih => show (xus U).length + 2 = _; rw [ih, List.length_cons]; omega
/- blocks of commands and of what waits are as they were -/
structure Kp (w w' : World) : Prop where
  k81 : K81 w w'
  k68 : ∀ (q : Nat) (cs : Array Value) (fr : Nat × Nat), w.heap[q]? = some (.cells cs 68 fr) → w'.heap[q]? = some (.cells cs 68 fr)
  k66 : ∀ (q : Nat) (cs : Array Value) (fr : Nat × Nat), w.heap[q]? = some (.cells cs 66 fr) → w'.heap[q]? = some (.cells cs 66 fr)
theorem Kp.refl (w : World) : Kp w w := ⟨K81.refl w, fun _ _ _ h => h, fun _ _ _ h => h⟩
theorem Kp.trans {a b c : World} (h : Kp a b) (k : Kp b c) : Kp a c := ⟨h.k81.trans k.k81, fun q cs fr e => k.k68 q cs fr (h.k68 q cs fr e), fun q cs fr e => k.k66 q cs fr (h.k66 q cs fr e)⟩
theorem Kp.below {w w' : World} (h : Below w.heap.size w w') : Kp w w' := ⟨K81.below h, fun q cs fr e => (h.block q (Array.getElem?_eq_some_iff.1 e).1).trans e, fun q cs fr e => (h.block q (Array.getElem?_eq_some_iff.1 e).1).trans e⟩
theorem Kp.ch {w w' : World} {S : Nat → Prop} (h : Ch w w' S) (hs : ∀ (q : Nat) (cs : Array Value) (t : TypeId) (fr : Nat × Nat), w.heap[q]? = some (.cells cs t fr) → t = 81 ∨ t = 68 ∨ t = 66 → ¬ S q) : Kp w w' :=
  ⟨K81.ch h (fun q cs fr e => hs q cs 81 fr e (.inl rfl)), fun q cs fr e => (h.block q (Array.getElem?_eq_some_iff.1 e).1 (hs q cs 68 fr e (.inr (.inl rfl)))).trans e, fun q cs fr e => (h.block q (Array.getElem?_eq_some_iff.1 e).1 (hs q cs 66 fr e (.inr (.inr rfl)))).trans e⟩
/- what waits -/
structure Pn (w0 wr : World) (B n : Nat) (Ps : List (Bal × List Cm)) (V : Nat → Bal → Bool) (wb : Nat) (rr qq : Int) (a : Option Addr) (m c : Nat) (ta : Option Addr) (tn tc : Nat) (X : List Cx) (T : List Int) : Prop where
  blk : wr.heap[wb]? = some (.cells #[.int .i64 rr, .int .i64 qq, .slice a m c, .slice ta tn tc] 68 (0, 0))
  lg : Lg wr a m c X
  ps : ((rr, qq), led X) ∈ Ps
  v : ∀ j, j < n → V j (rr, qq) = false
  t : ∀ w', Below B w0 w' → Irow w' 0 ta tn T
  ti : ∀ j, I64 (T.getD j 0)
theorem Pn.keep {w0 wr w' : World} {B n : Nat} {Ps Ps' : List (Bal × List Cm)} {V V' : Nat → Bal → Bool} {wb : Nat} {rr qq : Int} {a : Option Addr} {m c : Nat} {ta : Option Addr} {tn tc : Nat} {X : List Cx} {T : List Int} (h : Pn w0 wr B n Ps V wb rr qq a m c ta tn tc X T) (k : Kp wr w') (hP : ∀ p ∈ Ps, p ∈ Ps') (hV : ∀ j, V' j (rr, qq) = V j (rr, qq)) : Pn w0 w' B n Ps' V' wb rr qq a m c ta tn tc X T :=
  ⟨k.k68 _ _ _ h.blk, h.lg.keep k.k81, hP _ h.ps, fun j hj => (hV j).trans (h.v j hj), h.t, h.ti⟩
/- the state -/
structure Mn (w0 wr : World) (B H gg ab n hf K l0 : Nat) (G : Nat → Nat) (Ps : List (Bal × List Cm)) (U : List Bal) (ua : Option Addr) (un uc : Nat) (S : Nat → As) (V : Nat → Bal → Bool) (L : List Ct) (ba la ca : Option Addr) (bc lc cc N : Nat) : Prop where
  gh : Gh n hf S V Ps L
  sys : Sys wr H ab 0 n G S (fun q => q = gg ∨ rws ba la ca q ∨ blkOf ua = some q)
  ag : Ag wr B gg ba la ca bc lc cc N L
  lg : ∀ t ∈ L, Lg wr t.a t.m t.c t.X
  at_ : ∃ cs fr, wr.heap[ab]? = some (.cells cs 25 fr)
  us : wr.ownsRow B 34 2 (.slice ua un uc) un (xus U)
  ap : ∀ q, blkOf ua = some q → ¬ rws ba la ca q
  pu : ∀ b v, (b, v) ∈ Ps → b ∈ U
  np : ∀ b v, (b, v) ∈ Ps → (∀ x ∈ v, x.ps = []) ∧ v.length ≤ K
  ll : L.length ≤ l0
  bel : Below B w0 wr
  hB : B ≤ wr.heap.size
  hH : H ≤ wr.heap.size
  gB : ∀ i, i < n → B ≤ G i
  ggB : B ≤ gg
section
variable {w0 wr w' : World} {B H gg ab n hf K l0 : Nat} {G : Nat → Nat} {Ps : List (Bal × List Cm)} {U : List Bal} {ua : Option Addr} {un uc : Nat} {S : Nat → As} {V : Nat → Bal → Bool} {L : List Ct} {ba la ca : Option Addr} {bc lc cc N : Nat}
theorem Mn.ulen (h : Mn w0 wr B H gg ab n hf K l0 G Ps U ua un uc S V L ba la ca bc lc cc N) : U.length = un := by
  have := h.us.1
  rw [xus_len] at this
  omega
theorem Mn.mono (h : Mn w0 wr B H gg ab n hf K l0 G Ps U ua un uc S V L ba la ca bc lc cc N) {K' l1 : Nat} (hK : K ≤ K') (hl : l0 ≤ l1) : Mn w0 wr B H gg ab n hf K' l1 G Ps U ua un uc S V L ba la ca bc lc cc N :=
  ⟨h.gh, h.sys, h.ag, h.lg, h.at_, h.us, h.ap, h.pu, fun b v e => ⟨(h.np b v e).1, Nat.le_trans (h.np b v e).2 hK⟩, Nat.le_trans h.ll hl, h.bel, h.hB, h.hH, h.gB, h.ggB⟩
theorem Mn.below (h : Mn w0 wr B H gg ab n hf K l0 G Ps U ua un uc S V L ba la ca bc lc cc N) (hb : Below wr.heap.size wr w') : Mn w0 w' B H gg ab n hf K l0 G Ps U ua un uc S V L ba la ca bc lc cc N := by
  obtain ⟨cs, fr, e⟩ := h.at_
  exact ⟨h.gh, h.sys.below hb, h.ag.below hb, fun t ht => (h.lg t ht).below hb, ⟨cs, fr, (hb.block _ (Array.getElem?_eq_some_iff.1 e).1).trans e⟩, rown_bel h.us (fun q e => hb.block q (h.us.lt q e).2), h.ap, h.pu, h.np, h.ll, h.bel.trans (hb.mono h.hB), Nat.le_trans h.hB hb.size, Nat.le_trans h.hH hb.size, h.gB, h.ggB⟩
/- of the acceptors' blocks and of agreed's none has another type -/
theorem Mn.offG (h : Mn w0 wr B H gg ab n hf K l0 G Ps U ua un uc S V L ba la ca bc lc cc N) {q : Nat} {cs : Array Value} {t : TypeId} {fr : Nat × Nat} (hq : wr.heap[q]? = some (.cells cs t fr)) (ht : t ≠ 84) : ¬ ∃ i, i < n ∧ q = G i := by
  rintro ⟨i, hi, e⟩
  obtain ⟨a, m, c, X, h1, _⟩ := h.sys.acc i hi
  rw [e, h1.blk] at hq
  simp only [Option.some.injEq, Obj.cells.injEq] at hq
  exact ht hq.2.1.symm
theorem Mn.offU (h : Mn w0 wr B H gg ab n hf K l0 G Ps U ua un uc S V L ba la ca bc lc cc N) {q : Nat} {cs : Array Value} {t : TypeId} {fr : Nat × Nat} (hq : wr.heap[q]? = some (.cells cs t fr)) (ht : t ≠ 34) : ¬ blkOf ua = some q := fun e => ht (own_blk_ty h.us hq e)
theorem Mn.gAt (h : Mn w0 wr B H gg ab n hf K l0 G Ps U ua un uc S V L ba la ca bc lc cc N) {i : Nat} (hi : i < n) : ∃ cs, wr.heap[G i]? = some (.cells cs 84 (0, 0)) := by
  obtain ⟨a, m, c, X, h1, _⟩ := h.sys.acc i hi
  exact ⟨_, h1.blk⟩
/- a ballot is put into used -/
theorem Mn.used (h : Mn w0 wr B H gg ab n hf K l0 G Ps U ua un uc S V L ba la ca bc lc cc N) {a' : Option Addr} {c' : Nat} {rr qq : Int} (own : w'.ownsRow B 34 2 (.slice a' (un + 1) c') (un + 1) (xus U ++ [.int .i64 rr, .int .i64 qq])) (gr : wr.grownBy w' (blkOf ua)) (hn : ∀ q, blkOf a' = some q → blkOf ua = some q ∨ wr.heap.size ≤ q) : Mn w0 w' B H gg ab n hf K l0 G Ps (U ++ [(rr, qq)]) a' (un + 1) c' S V L ba la ca bc lc cc N ∧ Kp wr w' := by
  have hc : Ch wr w' (fun q => blkOf ua = some q) := ⟨gr.os, gr.tape, gr.output, gr.size, fun q h1 h2 => gr.block q h1 (fun e => h2 e.symm)⟩
  obtain ⟨cs, fr, e⟩ := h.at_
  have kg : ∀ q, q < wr.heap.size → ¬ blkOf ua = some q → w'.heap[q]? = wr.heap[q]? := fun q h1 h2 => hc.block q h1 h2
  have ub : ∀ q, blkOf ua = some q → B ≤ q ∧ q < wr.heap.size := fun q e => h.us.lt q (by rw [ownBlock_slice]; exact e)
  refine ⟨⟨h.gh, ?_, ⟨(kg gg (Array.getElem?_eq_some_iff.1 h.ag.k).1 (h.offU h.ag.k (by decide))).trans h.ag.k, rown_bel h.ag.ob (fun q e => kg q (h.ag.ob.lt q e).2 (fun e2 => h.ap q e2 (.inl (by rw [ownBlock_slice] at e; exact e)))), rown_bel h.ag.ol (fun q e => kg q (h.ag.ol.lt q e).2 (fun e2 => h.ap q e2 (.inr (.inl (by rw [ownBlock_slice] at e; exact e))))), rown_bel h.ag.oc (fun q e => kg q (h.ag.oc.lt q e).2 (fun e2 => h.ap q e2 (.inr (.inr (by rw [ownBlock_slice] at e; exact e)))))⟩, ?_, ⟨cs, fr, (kg ab (Array.getElem?_eq_some_iff.1 e).1 (h.offU e (by decide))).trans e⟩, ?_, ?_, ?_, h.np, h.ll, h.bel.trans (hc.toBelow h.hB (fun q hq e => by have := (ub q e).1; omega)), Nat.le_trans h.hB gr.size, Nat.le_trans h.hH gr.size, h.gB, h.ggB⟩, Kp.ch hc (fun q cs t fr hq ht => h.offU hq (by rcases ht with rfl | rfl | rfl <;> decide))⟩
  · refine h.sys.ch hc (fun q _ e => .inr (.inr e)) (h.offU e (by decide)) (fun i hi => ?_) (fun q e => ?_)
    · obtain ⟨cs, e2⟩ := h.gAt hi
      exact h.offU e2 (by decide)
    · rcases e with e | e | e
      · exact .inl (.inl e)
      · exact .inl (.inr (.inl e))
      · exact (hn q e).imp (fun e => .inr (.inr e)) id
  · exact fun t ht => (h.lg t ht).keep (K81.ch hc (fun q cs fr hq => h.offU hq (by decide)))
  · rw [xus_app]
    exact own
  · intro q e e2
    rcases hn q e with h1 | h1
    · exact h.ap q h1 e2
    · rcases e2 with e2 | e2 | e2
      · have := (h.ag.ob.lt q (by rw [ownBlock_slice]; exact e2)).2; omega
      · have := (h.ag.ol.lt q (by rw [ownBlock_slice]; exact e2)).2; omega
      · have := (h.ag.oc.lt q (by rw [ownBlock_slice]; exact e2)).2; omega
  · exact fun b v e => List.mem_append_left _ (h.pu b v e)
theorem Mn.vs (h : Mn w0 wr B H gg ab n hf K l0 G Ps U ua un uc S V L ba la ca bc lc cc N) : ∀ q, (q = gg ∨ rws ba la ca q ∨ blkOf ua = some q) → q < wr.heap.size := by
  rintro q (e | (e | e | e) | e)
  · rw [e]; exact (Array.getElem?_eq_some_iff.1 h.ag.k).1
  · exact (h.ag.ob.lt q (by rw [ownBlock_slice]; exact e)).2
  · exact (h.ag.ol.lt q (by rw [ownBlock_slice]; exact e)).2
  · exact (h.ag.oc.lt q (by rw [ownBlock_slice]; exact e)).2
  · exact (h.us.lt q (by rw [ownBlock_slice]; exact e)).2
/- blocks that are neither acceptors' nor agreed's -/
theorem Mn.chG (h : Mn w0 wr B H gg ab n hf K l0 G Ps U ua un uc S V L ba la ca bc lc cc N) (hc : Ch wr w' (fun q => ∃ i, i < n ∧ q = G i)) : Kp wr w' ∧ Ag w' B gg ba la ca bc lc cc N L ∧ (∀ t ∈ L, Lg w' t.a t.m t.c t.X) ∧ w'.ownsRow B 34 2 (.slice ua un uc) un (xus U) ∧ Below B w0 w' := by
  have kp : Kp wr w' := Kp.ch hc (fun q cs t fr hq ht => h.offG hq (by rcases ht with rfl | rfl | rfl <;> decide))
  have ko : ∀ {B : Nat} {e z : Nat} {a : Option Addr} {m c : Nat} {xs : List Value}, wr.ownsRow B e z (.slice a m c) m xs → e ≠ 84 → w'.ownsRow B e z (.slice a m c) m xs := fun {B e z a m c xs} ho he => rown_bel ho (fun q hq => hc.block q (ho.lt q hq).2 (fun ⟨i, hi, e2⟩ => by
    obtain ⟨cs, e3⟩ := h.gAt hi
    rw [← e2] at e3
    exact he (own_blk_ty ho e3 (by rw [ownBlock_slice] at hq; exact hq)).symm))
  refine ⟨kp, ⟨(hc.block gg (Array.getElem?_eq_some_iff.1 h.ag.k).1 (h.offG h.ag.k (by decide))).trans h.ag.k, ko h.ag.ob (by decide), ko h.ag.ol (by decide), ko h.ag.oc (by decide)⟩, fun t ht => (h.lg t ht).keep kp.k81, ko h.us (by decide), h.bel.trans (hc.toBelow h.hB (fun q hq ⟨i, hi, e⟩ => by have := h.gB i hi; omega))⟩
/- ask was called -/
theorem Mn.asked (h : Mn w0 wr B H gg ab n hf K l0 G Ps U ua un uc S V L ba la ca bc lc cc N) {b : Bal} {ok : Bool} {a : Option Addr} {m c : Nat} (hb : b ∈ U) (hf' : ∀ u, (b, u) ∉ Ps) (hR : AskR wr w' H ab 0 n hf K G (fun q => q = gg ∨ rws ba la ca q ∨ blkOf ua = some q) Ps b V L ok a m c) : Kp wr w' ∧ ∃ S' X, Lg w' a m c X ∧ ∃ Ps', (∀ p ∈ Ps, p ∈ Ps') ∧ (ok = true → (b, led X) ∈ Ps') ∧ (∀ j, j < n → V j b = false) ∧ Mn w0 w' B H gg ab n hf (K + 1) l0 G Ps' U ua un uc S' V L ba la ca bc lc cc N := by
  obtain ⟨S', X, g1, g2, g3, g4, g5, g6, g7, g8⟩ := hR
  obtain ⟨kp, k1, k2, k3, k4⟩ := h.chG g4
  have hv : ∀ j, j < n → V j b = false := fun j hj => by
    cases hV : V j b with
    | false => rfl
    | true =>
      obtain ⟨v, hv⟩ := h.gh.inv.a4 j b hj hV
      exact absurd hv (hf' v)
  refine ⟨kp, S', X, g3, ?_⟩
  cases ok with
  | false =>
    exact ⟨Ps, fun p hp => hp, (fun e => by cases e), hv, ⟨g1, g2, k1, k2, g5, k3, h.ap, h.pu, fun b v e => ⟨(h.np b v e).1, Nat.le_succ_of_le (h.np b v e).2⟩, h.ll, k4, Nat.le_trans h.hB g4.size, Nat.le_trans h.hH g4.size, h.gB, h.ggB⟩⟩
  | true =>
    refine ⟨(b, led X) :: Ps, fun p hp => List.mem_cons_of_mem _ hp, fun _ => List.mem_cons_self, hv, ⟨g8 rfl, g2, k1, k2, g5, k3, h.ap, fun b' v e => ?_, fun b' v e => ?_, h.ll, k4, Nat.le_trans h.hB g4.size, Nat.le_trans h.hH g4.size, h.gB, h.ggB⟩⟩
    · rcases List.mem_cons.1 e with e | e
      · cases e; exact hb
      · exact h.pu b' v e
    · rcases List.mem_cons.1 e with e | e
      · cases e; exact ⟨g6, g7⟩
      · exact ⟨(h.np b' v e).1, Nat.le_succ_of_le (h.np b' v e).2⟩
/- take was called -/
theorem Mn.took (h : Mn w0 wr B H gg ab n hf K l0 G Ps U ua un uc S V L ba la ca bc lc cc N) {b : Bal} (hR : TkR wr w' B H gg ab 0 n hf G (fun q => blkOf ua = some q) (rws ba la ca) Ps b L.length V) : Kp wr w' ∧ ∃ S' V' L' ba' la' ca' bc' lc' cc' N', (∀ j x, x ≠ b → V' j x = V j x) ∧ Mn w0 w' B H gg ab n hf K (l0 + 1) G Ps U ua un uc S' V' L' ba' la' ca' bc' lc' cc' N' := by
  obtain ⟨S', V', L', ba', la', ca', bc', lc', cc', N', g1, g2, g3, g4, g5, g6, g7, g8, g9⟩ := hR
  have ub : ∀ q, blkOf ua = some q → B ≤ q ∧ q < wr.heap.size := fun q e => h.us.lt q (by rw [ownBlock_slice]; exact e)
  have off : ∀ {q : Nat} {cs : Array Value} {t : TypeId} {fr : Nat × Nat}, wr.heap[q]? = some (.cells cs t fr) → t = 81 ∨ t = 68 ∨ t = 66 → ¬ ((∃ i, i < n ∧ q = G i) ∨ q = gg ∨ rws ba la ca q) := fun {q cs t fr} hq ht e => by
    rcases e with e | e
    · exact h.offG hq (by rcases ht with rfl | rfl | rfl <;> decide) e
    · exact h.ag.off hq (by rcases ht with rfl | rfl | rfl <;> decide) (by rcases ht with rfl | rfl | rfl <;> decide) (by rcases ht with rfl | rfl | rfl <;> decide) (by rcases ht with rfl | rfl | rfl <;> decide) e
  have offu : ∀ q, blkOf ua = some q → ¬ ((∃ i, i < n ∧ q = G i) ∨ q = gg ∨ rws ba la ca q) := fun q e e2 => by
    rcases e2 with ⟨i, hi, e2⟩ | e2 | e2
    · obtain ⟨cs, e3⟩ := h.gAt hi
      rw [← e2] at e3
      exact h.offU e3 (by decide) e
    · have e3 := h.ag.k
      rw [← e2] at e3
      exact h.offU e3 (by decide) e
    · exact h.ap q e e2
  refine ⟨Kp.ch g5 (fun q cs t fr hq ht => off hq ht), S', V', L', ba', la', ca', bc', lc', cc', N', g8, ⟨g1, g2, g3, g4, g9, rown_bel h.us (fun q e => g5.block q (h.us.lt q e).2 (offu q (by rw [ownBlock_slice] at e; exact e))), fun q e e2 => ?_, h.pu, h.np, Nat.le_trans g7 (Nat.succ_le_succ h.ll), h.bel.trans (g5.toBelow h.hB (fun q hq e => ?_)), Nat.le_trans h.hB g5.size, Nat.le_trans h.hH g5.size, h.gB, h.ggB⟩⟩
  · rcases g6 q e2 with e3 | e3
    · exact h.ap q e e3
    · have := (ub q e).2; omega
  · rcases e with ⟨i, hi, e⟩ | e | (e | e | e)
    · have := h.gB i hi; omega
    · have := h.ggB; omega
    · have := (h.ag.ob.lt q (by rw [ownBlock_slice]; exact e)).1; omega
    · have := (h.ag.ol.lt q (by rw [ownBlock_slice]; exact e)).1; omega
    · have := (h.ag.oc.lt q (by rw [ownBlock_slice]; exact e)).1; omega
/- at the beginning -/
theorem Mn.start {aa : Option Addr} {cp : Nat} (h : Mk w0 wr B n aa cp G) (hn : 0 < n) (hB : B ≤ wr.heap.size) (hw : ((wr.alloc (.cells #[.slice none 0 0, .slice none 0 0, .slice none 0 0] 63)).alloc (.cells #[] 68)).alloc (.cells #[] 34) = w') : ∃ ab, aa = some ⟨ab, 0, none⟩ ∧ Mn w0 w' B wr.heap.size wr.heap.size ab n hf 0 0 G [] [] (some ⟨wr.heap.size + 2, 0, none⟩) 0 0 (fun i => s0 i) (fun _ _ => false) [] none none none 0 0 0 0 := by
  obtain ⟨ab, rfl, sys, hat⟩ := h.sys hn (fun _ => False)
  have b3 : Below wr.heap.size wr w' := by rw [← hw]; exact (alloc2 wr _ _).alloc (by simp; omega) _
  have k1 : w'.heap[wr.heap.size]? = some (.cells #[.slice none 0 0, .slice none 0 0, .slice none 0 0] 63 (0, 0)) := by
    rw [← hw]
    exact ((alloc2 (wr.alloc (.cells #[.slice none 0 0, .slice none 0 0, .slice none 0 0] 63)) (.cells #[] 68) (.cells #[] 34)).block wr.heap.size (by simp)).trans (heap_alloc_new wr _)
  have k3 : w'.heap[wr.heap.size + 2]? = some (.cells #[] 34 (0, 0)) := by
    rw [← hw]
    have h := heap_alloc_new ((wr.alloc (.cells #[.slice none 0 0, .slice none 0 0, .slice none 0 0] 63)).alloc (.cells #[] 68)) (.cells #[] 34)
    simpa using h
  obtain ⟨cs, fr, e⟩ := hat
  refine ⟨ab, rfl, ⟨Gh.start n hf, ?_, ⟨k1, ⟨rfl, .inl ⟨rfl, rfl⟩⟩, ⟨rfl, .inl ⟨rfl, rfl⟩⟩, ⟨rfl, .inl ⟨rfl, rfl⟩⟩⟩, (fun t ht => by cases ht), ⟨cs, fr, (b3.block _ (Array.getElem?_eq_some_iff.1 e).1).trans e⟩, ⟨rfl, .inr ⟨_, 0, #[], rfl, by omega, k3, Nat.le_refl _, Nat.zero_le _, rfl, rfl⟩⟩, (fun q _ e => by rcases e with e | e | e <;> cases e), (fun b v e => by cases e), (fun b v e => by cases e), Nat.le_refl _, h.bel.trans (b3.mono hB), Nat.le_trans hB b3.size, b3.size, h.ge, hB⟩⟩
  refine sys.ch (T := fun _ => False) (Ch.below b3) (fun _ _ e => e.elim) (fun e => e) (fun _ _ e => e) (fun q e => .inr ?_)
  rcases e with e | (e | e | e) | e
  · omega
  · cases e
  · cases e
  · cases e
  · simp [blkOf] at e
    omega
end
end Go.Proofs.YtdfnjcjpblkmcaaDoor
