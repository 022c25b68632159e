/- The law's loop over rounds: ask and take in its words. -/
import Derived.Test.YtdfnjcjpblkmcaaDoorPr
namespace Go.Proofs.YtdfnjcjpblkmcaaDoor
open Go.ChangeShapes Go.WideShapes Go.ChangeAt Go.RowKit
set_option maxRecDepth 20000
set_option linter.unusedVariables false
set_option linter.unusedSimpArgs false
section
variable {w0 wr w' : World} {B H gg ab n hf K l0 : Nat} {G : Nat → Nat} {Ps : List (Bal × List Cm)} {U : List Bal} {ua : Option Addr} {un uc : Nat} {S : Nat → As} {V : Nat → Bal → Bool} {L : List Ct} {ba la ca : Option Addr} {bc lc cc N : Nat}
theorem Mn.take {M : Nat} {E : Nat → Addr} {acp : Nat} {rr qq : Int} {a : Option Addr} {m c : Nat} {ta : Option Addr} {tn tc : Nat} {X : List Cx} {T : List Int} (h : Hid (Mn w0 wr B H gg ab n hf K l0 G Ps U ua un uc S V L ba la ca bc lc cc N)) (hX : Hid (Lg wr a m c X)) (hP : Hid (((rr, qq), led X) ∈ Ps)) (hV : Hid (∀ j, j < n → V j (rr, qq) = false)) (hT : Hid (∀ w', Below B w0 w' → Irow w' 0 ta tn T)) (hTI : Hid (∀ j, I64 (T.getD j 0))) (hE : Hid (∀ w', Below B w0 w' → Sent w' M E)) (hM : 2 ≤ M) (hn : 0 < n) (hn7 : n ≤ 7) (hh : n < hf + hf) (hh2 : hf ≤ 100) (hl : l0 ≤ 800) :
    Calls Tryd.prog 20 #[.slice (some ⟨ab, 0, none⟩) n acp, .pointer (some ⟨gg, 0, none⟩), .agg #[.int .i64 rr, .int .i64 qq, .slice a m c, .slice ta tn tc], .int .i64 hf] wr fun e w' => e = .returned (.bool true) ∧ Hid (Kp wr w' ∧ ∃ S' V' L' ba' la' ca' bc' lc' cc' N', (∀ j x, x ≠ (rr, qq) → V' j x = V j x) ∧ Mn w0 w' B H gg ab n hf K (l0 + 1) G Ps U ua un uc S' V' L' ba' la' ca' bc' lc' cc' N') := by
  have k := h.out
  refine (take_n (U := fun q => blkOf ua = some q) (B := B) k.gh k.sys k.ag k.lg k.at_ hX hP hV (fun w' hb => hE.out w' (k.bel.trans hb)) hM (fun w' hb => hT.out w' (k.bel.trans hb)) hTI hn hn7 hh hh2 (Nat.le_trans k.ll hl) k.hB k.gB k.ggB k.hH (fun q e => (k.us.lt q (by rw [ownBlock_slice]; exact e)).2)).mono ?_
  rintro e w' ⟨he, hR⟩
  exact ⟨he, k.took hR.out⟩
theorem Mn.ask {M : Nat} {E : Nat → Addr} {acp : Nat} {rr qq : Int} {aa : Option Addr} {an ac2 : Nat} {A : List Int} {ta : Option Addr} {tn tc : Nat} {tag : Int} {late : Bool} (h : Hid (Mn w0 wr B H gg ab n hf K l0 G Ps U ua un uc S V L ba la ca bc lc cc N)) (hb : Hid ((rr, qq) ∈ U)) (hfr : Hid (∀ u, ((rr, qq), u) ∉ Ps)) (hA : Hid (∀ w', Below B w0 w' → Irow w' 0 aa an A)) (hAI : Hid (∀ j, I64 (A.getD j 0))) (hE : Hid (∀ w', Below B w0 w' → Sent w' M E)) (hM : 2 ≤ M) (hn : 0 < n) (hn7 : n ≤ 7) (hh : 0 < hf) (hh2 : hf ≤ 100) (hK : K ≤ 900) :
    Calls Tryd.prog 19 #[.slice (some ⟨ab, 0, none⟩) n acp, .agg #[.int .i64 rr, .int .i64 qq, .slice aa an ac2, .slice ta tn tc, .int .i64 tag, .bool late], .int .i64 hf] wr fun e w' => ∃ a' m' c' ok, e = .returned (.tuple #[.agg #[.int .i64 rr, .int .i64 qq, .slice a' m' c', .slice ta tn tc], .bool ok]) ∧ Hid (Kp wr w' ∧ ∃ S' X, Lg w' a' m' c' X ∧ ∃ Ps', (∀ p ∈ Ps, p ∈ Ps') ∧ (ok = true → ((rr, qq), led X) ∈ Ps') ∧ (∀ j, j < n → V j (rr, qq) = false) ∧ Mn w0 w' B H gg ab n hf (K + 1) l0 G Ps' U ua un uc S' V L ba la ca bc lc cc N) := by
  have k := h.out
  refine (ask_n (B := B) (VS := fun q => q = gg ∨ rws ba la ca q ∨ blkOf ua = some q) k.gh k.sys k.at_ k.vs (fun w' hb => hE.out w' (k.bel.trans hb)) hM (fun w' hb => hA.out w' (k.bel.trans hb)) hAI hn hn7 hh hh2 k.hB k.gB k.np hK hfr).mono ?_
  rintro e w' ⟨a', m', c', ok, he, hR⟩
  exact ⟨a', m', c', ok, he, k.asked hb.out hfr.out hR.out⟩
theorem Mn.uat (h : Mn w0 wr B H gg ab n hf K l0 G Ps U ua un uc S V L ba la ca bc lc cc N) {i : Nat} (hi : i < U.length) : ∃ b o, ua = some ⟨b, o, none⟩ ∧ Hid (o = 0) ∧ wr.cell? ⟨b, o + i * 2, none⟩ = some (.int .i64 U[i].1) ∧ wr.cell? ⟨b, o + i * 2 + 1, none⟩ = some (.int .i64 U[i].2) := by
  have hl := h.ulen
  obtain ⟨g, hba, _⟩ := rown_at h.us (by omega)
  have ho := h.us
  rw [hba] at ho
  refine ⟨g, 0, hba, rfl, ?_, ?_⟩
  · rw [Nat.zero_add, ho.cellAt _ (by omega)]
    exact (xus_at U i hi).1
  · rw [Nat.zero_add, ho.cellAt _ (by omega)]
    exact (xus_at U i hi).2
end
/- was the ballot used among the first k? -/
def agn (U : List Bal) (b : Bal) (k : Nat) : Bool := decide (b ∈ U.take k)
theorem agn_zero (U : List Bal) (b : Bal) : agn U b 0 = false := by simp [agn]
theorem agn_succ {U : List Bal} {b : Bal} {k : Nat} (hk : k < U.length) : agn U b (k + 1) = (agn U b k || decide (U[k] = b)) := by
  unfold agn
  rw [List.take_succ_eq_append_getElem hk, ← Bool.decide_or]
  refine decide_eq_decide.2 ?_
  rw [List.mem_append, List.mem_singleton, eq_comm (a := b)]
/- what the loop over rounds keeps -/
def Wn (w0 wr : World) (B n : Nat) (Ps : List (Bal × List Cm)) (V : Nat → Bal → Bool) (wt : Option Addr) (wn : Nat) : Prop :=
  wn = 0 ∨ (wn = 1 ∧ ∃ wb rr qq a m c ta tn tc X T, wt = some ⟨wb, 0, none⟩ ∧ Pn w0 wr B n Ps V wb rr qq a m c ta tn tc X T)
theorem Wn.keep {w0 wr w' : World} {B n : Nat} {Ps Ps' : List (Bal × List Cm)} {V V' : Nat → Bal → Bool} {wt : Option Addr} {wn : Nat} (h : Wn w0 wr B n Ps V wt wn) (k : Kp wr w') (hP : ∀ p ∈ Ps, p ∈ Ps') (hV : ∀ b, (∃ v, (b, v) ∈ Ps) → ∀ j, V' j b = V j b) : Wn w0 w' B n Ps' V' wt wn := by
  rcases h with h | ⟨h, wb, rr, qq, a, m, c, ta, tn, tc, X, T, e, hp⟩
  · exact .inl h
  · exact .inr ⟨h, wb, rr, qq, a, m, c, ta, tn, tc, X, T, e, hp.keep k hP (hV _ ⟨_, hp.ps⟩)⟩
def St (w0 wr : World) (B gg ab n hf K l0 : Nat) (G : Nat → Nat) (ua : Option Addr) (un uc : Nat) (wt : Option Addr) (wn : Nat) : Prop :=
  ∃ Ps U S V L ba la ca bc lc cc N, Mn w0 wr B gg gg ab n hf K l0 G Ps U ua un uc S V L ba la ca bc lc cc N ∧ Wn w0 wr B n Ps V wt wn
theorem Rdc.below {W W' : World} {b o : Nat} {x : Rt} (h : Rdc W b o x) (hb : Below W.heap.size W W') : W'.cell? ⟨b, o, none⟩ = some (.int .i64 x.r) ∧ W'.cell? ⟨b, o + 1, none⟩ = some (.int .i64 x.n) ∧ W'.cell? ⟨b, o + 2, none⟩ = some (.slice x.aa x.an x.ac) ∧ W'.cell? ⟨b, o + 3, none⟩ = some (.slice x.ta x.tn x.tc) ∧ W'.cell? ⟨b, o + 4, none⟩ = some (.int .i64 x.tag) ∧ W'.cell? ⟨b, o + 5, none⟩ = some (.bool x.late) := by
  have k : ∀ {p i : Nat} {v : Value}, W.cell? ⟨p, i, none⟩ = some v → W'.cell? ⟨p, i, none⟩ = some v := fun {p i v} e => (World.cell?_of_block (w := W) (hb.block p (cell_lt e))).trans e
  exact ⟨k h.c0, k h.c1, k h.c2, k h.c3, k h.c4, k h.c5⟩
theorem Irow.bel {W W' : World} {a : Option Addr} {n : Nat} {l : List Int} (h : Irow W 0 a n l) (hb : Below W.heap.size W W') : Irow W' 0 a n l := h.keep hb.size (fun q _ hq => hb.block q hq)
end Go.Proofs.YtdfnjcjpblkmcaaDoor
