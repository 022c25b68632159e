/- The first line of a head, and a field's. -/
import Derived.Test.YtemhhlongfabmaaGreatDoorHb
import Derived.Test.YtemhhlongfabmaaGreatDoorRa
namespace Go.Proofs.YtemhhlongfabmaaGreatDoor
open Go.ChangeShapes Go.WideShapes Go.ChangeAt Go.RowKit
set_option maxRecDepth 20000
set_option linter.unusedVariables false
set_option linter.unusedSimpArgs false
/- the library's own bound is there -/
def Mx (W : World) : Prop := ∃ m, W.cell? ⟨18, 0, none⟩ = some (.int .i64 m)
theorem Mx.below {w w' : World} (h : Mx w) (hb : Below w.heap.size w w') : Mx w' := by
  obtain ⟨m, hm⟩ := h
  exact ⟨m, (hb.cell (p := ⟨18, 0, none⟩) (cell_lt hm)).trans hm⟩
def cutA (s c : ByteArray) : ByteArray × ByteArray × Bool := (⟨(Lib.cut s.data.toList c.data.toList).1.toArray⟩, ⟨(Lib.cut s.data.toList c.data.toList).2.1.toArray⟩, (Lib.cut s.data.toList c.data.toList).2.2)
theorem cut_n (s c : ByteArray) (hs : s.size < 4294967281) {w : World} (hm : Hid (Mx w)) : Calls Tryz.prog 52 #[.string s, .string c] w fun e w' => e = .returned (.tuple #[.string (cutA s c).1, .string (cutA s c).2.1, .bool (cutA s c).2.2]) ∧ Hid (Below w.heap.size w w') := by
  obtain ⟨m, hm⟩ := hm.out
  refine (Tryz.strings_Cut s c m w hs hm).mono ?_
  rintro e w' ⟨h1, n, h2⟩
  refine ⟨h1, ?_⟩
  subst h2
  exact below_drewN (Below.refl _ _) n
theorem cut_size (s c : ByteArray) : (cutA s c).1.size ≤ s.size ∧ (cutA s c).2.1.size ≤ s.size := by
  unfold cutA Lib.cut
  simp only [Lib.size_eq]
  split <;> simp <;> omega
theorem beq_ba (s t : ByteArray) : (s.toList == t.toList) = decide (s = t) := by
  rw [ByteArray.toList_eq, ByteArray.toList_eq]
  by_cases h : s = t
  · subst h; simp
  · have h2 : ¬ (s.data.toList = t.data.toList) := fun e => h (ByteArray.ext (Array.toList_inj.1 e))
    rw [decide_eq_false h]
    simpa using h2
theorem beq_lit {s t : ByteArray} {b : Bool} {l : List UInt8} (h : decide (s = t) = b) (hl : t.data.toList = l) : (s.toList == l) = b := by
  rw [← hl, ← ByteArray.toList_eq, beq_ba, h]
/- a result that lies in a box -/
theorem res_row2 {fn : Func} {p q : Tmp} {ty : TypeId} (hf : fn.results = #[.cell p ty, .tmp q]) {tmps : Array Value} {w : World} {g : Nat} {t : TypeId} {A : Array Value} {fr : Nat × Nat} (hp : tmps.getD p undef = .pointer (some ⟨g, 0, none⟩)) (hr : w.heap[g]? = some (.cells A t fr))
    (hu : ∃ d, Tryz.prog.underlying ty = some d ∧ d.isRow = true) (hi : (Tryz.prog.info? ty).map (·.size) = some A.size) : (results fn tmps).run Tryz.prog w = .ok (.tuple #[.agg A, tmps.getD q undef]) w := by
  obtain ⟨d, h1, h2⟩ := hu
  have hp' : tmps[p]?.getD undef = .pointer (some ⟨g, 0, none⟩) := by simpa using hp
  have e := run_loadVar_row (P := Tryz.prog) w g t ty A fr d hr h1 (by cases d <;> simp_all [TypeDesc.isRow]) hi
  simp [results, hf, hp', asAddr, e]
theorem res_row3 {fn : Func} {p q r : Tmp} {ty : TypeId} (hf : fn.results = #[.cell p ty, .tmp q, .tmp r]) {tmps : Array Value} {w : World} {g : Nat} {t : TypeId} {A : Array Value} {fr : Nat × Nat} (hp : tmps.getD p undef = .pointer (some ⟨g, 0, none⟩)) (hr : w.heap[g]? = some (.cells A t fr))
    (hu : ∃ d, Tryz.prog.underlying ty = some d ∧ d.isRow = true) (hi : (Tryz.prog.info? ty).map (·.size) = some A.size) : (results fn tmps).run Tryz.prog w = .ok (.tuple #[.agg A, tmps.getD q undef, tmps.getD r undef]) w := by
  obtain ⟨d, h1, h2⟩ := hu
  have hp' : tmps[p]?.getD undef = .pointer (some ⟨g, 0, none⟩) := by simpa using hp
  have e := run_loadVar_row (P := Tryz.prog) w g t ty A fr d hr h1 (by cases d <;> simp_all [TypeDesc.isRow]) hi
  simp [results, hf, hp', asAddr, e]
/- a box of the call's own, and what is stored there -/
structure Bx (w W : World) (g : Nat) (ty : TypeId) (A : Array Value) : Prop where
  row : W.heap[g]? = some (.cells A ty (0, 0))
  bel : Below w.heap.size w W
  ge : w.heap.size ≤ g
theorem Bx.new (w W : World) (ty : TypeId) (A : Array Value) (h : Below w.heap.size w W) : Bx w (W.alloc (.cells A ty)) W.heap.size ty A := ⟨heap_alloc_new _ _, h.alloc h.size _, h.size⟩
theorem Bx.lt {w W : World} {g : Nat} {ty : TypeId} {A : Array Value} (h : Bx w W g ty A) : g < W.heap.size := (Array.getElem?_eq_some_iff.1 h.row).1
theorem Bx.below {w W W' : World} {g : Nat} {ty : TypeId} {A : Array Value} (h : Bx w W g ty A) (hb : Below W.heap.size W W') : Bx w W' g ty A :=
  ⟨(hb.block g h.lt).trans h.row, h.bel.trans ⟨hb.os, hb.tape, hb.output, hb.size, fun k hk => hb.block k (Nat.lt_of_lt_of_le hk h.bel.size)⟩, h.ge⟩
theorem Bx.set {w W : World} {g : Nat} {ty : TypeId} {A : Array Value} (h : Bx w W g ty A) (A' : Array Value) : Bx w (W.setRow g A') g ty A' := ⟨setRow_heap _ _ _ _ _ _ h.row, below_setRow h.bel h.ge A', h.ge⟩
theorem Bx.other {w W : World} {g k : Nat} {ty t2 : TypeId} {A B : Array Value} (h : Bx w W g ty A) (hk : Bx w W k t2 B) (ne : g ≠ k) (B' : Array Value) : Bx w (W.setRow k B') g ty A := by
  refine ⟨?_, below_setRow h.bel hk.ge B', h.ge⟩
  rw [← h.row]
  exact setRow_other _ _ _ _ ne
def sp : ByteArray := ⟨#[32]⟩
def ver : ByteArray := ⟨#[72, 84, 84, 80, 47, 49, 46, 49]⟩
def rdF (s : ByteArray) : Option (ByteArray × ByteArray) :=
  if gdM (cutA s sp).1 && (gdT (cutA (cutA s sp).2.1 sp).1 && decide ((cutA (cutA s sp).2.1 sp).2.1 = ver)) then some ((cutA s sp).1, (cutA (cutA s sp).2.1 sp).1) else none
def aggR (m t : ByteArray) (F B : Value) : Array Value := #[.string m, .string t, F, B]
theorem und27 : ∃ d, Tryz.prog.underlying 27 = some d ∧ d.isRow = true := ⟨_, Tryz.underlying27, rfl⟩
theorem und41 : ∃ d, Tryz.prog.underlying 41 = some d ∧ d.isRow = true := ⟨_, Tryz.underlying41, rfl⟩
theorem sz27 (m t : ByteArray) (F B : Value) : (Tryz.prog.info? 27).map (·.size) = some (aggR m t F B).size := by
  show _ = some 4
  kernel_rfl
theorem one27 (m t : ByteArray) (a b : Option Addr) (n c k d : Nat) : (aggR m t (.slice a n c) (.slice b k d)).all (·.oneCell') = true := by simp [aggR, Value.oneCell']
def FirstEnd (o : Option (ByteArray × ByteArray)) (e : Ending) : Prop := match o with
  | some (m, t) => e = .returned (.tuple #[.agg (aggR m t (.slice none 0 0) (.slice none 0 0)), .bool true])
  | none => e = .returned (.tuple #[.agg (aggR ⟨#[]⟩ ⟨#[]⟩ (.slice none 0 0) (.slice none 0 0)), .bool false])
set_option maxHeartbeats 2000000 in
theorem readFirst_n (s : ByteArray) (hs : s.size < 4294967281) {w : World} (hm : Hid (Mx w)) : Calls Tryz.prog 44 #[.string s] w fun e w' => FirstEnd (rdF s) e ∧ Hid (Below w.heap.size w w') := by
  obtain ⟨a, r, ok, HA⟩ : ∃ a r ok, Hid (cutA s sp = (a, r, ok)) := ⟨_, _, _, rfl⟩
  obtain ⟨t, l, ok2, HB⟩ : ∃ t l ok, Hid (cutA r sp = (t, l, ok)) := ⟨_, _, _, rfl⟩
  have za : a.size < 4294967281 := by have := (cut_size s sp).1; rw [HA.out] at this; dsimp only at this; omega
  have zr : r.size < 4294967281 := by have := (cut_size s sp).2; rw [HA.out] at this; dsimp only at this; omega
  have zt : t.size < 4294967281 := by have := (cut_size r sp).1; rw [HB.out] at this; dsimp only at this; omega
  have zl : l.size < 4294967281 := by have := (cut_size r sp).2; rw [HB.out] at this; dsimp only at this; omega
  obtain ⟨b0, E0⟩ : ∃ b, Hid (gdM a = b) := ⟨_, rfl⟩
  obtain ⟨b1, E1⟩ : ∃ b, Hid (gdT t = b) := ⟨_, rfl⟩
  obtain ⟨b2, E2⟩ : ∃ b, Hid (decide (l = ver) = b) := ⟨_, rfl⟩
  have EV : Hid (rdF s = if b0 && (b1 && b2) then some (a, t) else none) := by unfold rdF; rw [HA.out]; dsimp only; rw [HB.out]; dsimp only; rw [E0.out, E1.out, E2.out]; exact (rfl : (_ : Option (ByteArray × ByteArray)) = _)
  rw [EV.out]
  have q2 : (l.toList == [72, 84, 84, 80, 47, 49, 46, 49]) = b2 := beq_lit E2.out rfl
  have c1 : ∀ {w : World}, Hid (Mx w) → Calls Tryz.prog 52 #[.string s, .string { data := #[32] }] w fun e w' => e = .returned (.tuple #[.string a, .string r, .bool ok]) ∧ Hid (Below w.heap.size w w') := fun hm => by
    have := cut_n s sp hs hm
    rw [HA.out] at this
    exact this
  have c2 : ∀ {w : World}, Hid (Mx w) → Calls Tryz.prog 52 #[.string r, .string { data := #[32] }] w fun e w' => e = .returned (.tuple #[.string t, .string l, .bool ok2]) ∧ Hid (Below w.heap.size w w') := fun hm => by
    have := cut_n r sp zr hm
    rw [HB.out] at this
    exact this
  have C1 : Hid (∀ {w : World}, Hid (Mx w) → Calls Tryz.prog 52 #[.string s, .string { data := #[32] }] w fun e w' => e = .returned (.tuple #[.string a, .string r, .bool ok]) ∧ Hid (Below w.heap.size w w')) := c1
  have C2 : Hid (∀ {w : World}, Hid (Mx w) → Calls Tryz.prog 52 #[.string r, .string { data := #[32] }] w fun e w' => e = .returned (.tuple #[.string t, .string l, .bool ok2]) ∧ Hid (Below w.heap.size w w')) := c2
  clear c1 c2 EV
  obtain ⟨w0, H0⟩ : ∃ w0, Hid (w.alloc (.cells #[.string { data := #[] }, .string { data := #[] }, .slice none 0 0, .slice none 0 0] 27) = w0) := ⟨_, rfl⟩
  have M0 : Hid (Mx w0) := by rw [← H0.out]; exact hm.out.below (alloc1 _ _)
  have K0 : Hid (Bx w w0 w.heap.size 27 (aggR ⟨#[]⟩ ⟨#[]⟩ (.slice none 0 0) (.slice none 0 0))) := by rw [← H0.out]; exact Bx.new w w 27 _ (Below.refl _ _)
  cases b0 with
  | false =>
    go_enter Tryz.func44, Tryz.ntmps44
    go_wp2_with (first
        | (go_at_call 52; rw [H0.out]; refine (C1.out M0).mono ?_; rintro e w1 ⟨rfl, B1⟩
           have M1 : Hid (Mx w1) := M0.out.below B1.out
           have K1 : Hid (Bx w w1 w.heap.size 27 (aggR ⟨#[]⟩ ⟨#[]⟩ (.slice none 0 0) (.slice none 0 0))) := K0.out.below B1.out)
        | (go_at_call 52; refine (C2.out M1).mono ?_; rintro e w2 ⟨rfl, B2⟩
           have M2 : Hid (Mx w2) := M1.out.below B2.out
           have K2 : Hid (Bx w w2 w.heap.size 27 (aggR ⟨#[]⟩ ⟨#[]⟩ (.slice none 0 0) (.slice none 0 0))) := K1.out.below B2.out
           obtain ⟨w9, H9⟩ : ∃ w9, Hid (w2.setRow w.heap.size (aggR ⟨#[]⟩ ⟨#[]⟩ (.slice none 0 0) (.slice none 0 0)) = w9) := ⟨_, rfl⟩
           have K9 : Hid (Bx w w9 w.heap.size 27 (aggR ⟨#[]⟩ ⟨#[]⟩ (.slice none 0 0) (.slice none 0 0))) := by rw [← H9.out]; exact K2.out.set _)
        | (go_at_call 53; refine (goodMethod_n a (by omega) _).mono ?_; rintro e w3 ⟨rfl, h3⟩; rw [h3, E0.out]; clear h3)
        | (go_at_call 54; refine (goodTarget_n t (by omega) _).mono ?_; rintro e w4 ⟨rfl, h4⟩; rw [h4, E1.out]; clear h4)
        | (refine wpList_store_row (by rfl) 27 (.tmp 2) (.tmp 34) (by rfl) w.heap.size (aggR ⟨#[]⟩ ⟨#[]⟩ (.slice none 0 0) (.slice none 0 0)) (by rfl) (by rfl) 27 _ K2.out.row (sz27 _ _ _ _) (by rfl) (one27 _ _ _ _ _ _ _ _) ?_; refine (show _ = w9 from H9.out) ▸ ?_))
    try simp only [Exit.inBlock, Exit.then]
    refine bodyPost_ret (res_row2 (by rfl) (by rfl) K9.out.row und27 (sz27 _ _ _ _)) rfl ?_
    exact ⟨rfl, K9.out.bel⟩
  | true =>
    cases b1 with
    | false =>
      go_enter Tryz.func44, Tryz.ntmps44
      go_wp2_with (first
          | (go_at_call 52; rw [H0.out]; refine (C1.out M0).mono ?_; rintro e w1 ⟨rfl, B1⟩
             have M1 : Hid (Mx w1) := M0.out.below B1.out
             have K1 : Hid (Bx w w1 w.heap.size 27 (aggR ⟨#[]⟩ ⟨#[]⟩ (.slice none 0 0) (.slice none 0 0))) := K0.out.below B1.out)
          | (go_at_call 52; refine (C2.out M1).mono ?_; rintro e w2 ⟨rfl, B2⟩
             have M2 : Hid (Mx w2) := M1.out.below B2.out
             have K2 : Hid (Bx w w2 w.heap.size 27 (aggR ⟨#[]⟩ ⟨#[]⟩ (.slice none 0 0) (.slice none 0 0))) := K1.out.below B2.out
             obtain ⟨w9, H9⟩ : ∃ w9, Hid (w2.setRow w.heap.size (aggR ⟨#[]⟩ ⟨#[]⟩ (.slice none 0 0) (.slice none 0 0)) = w9) := ⟨_, rfl⟩
             have K9 : Hid (Bx w w9 w.heap.size 27 (aggR ⟨#[]⟩ ⟨#[]⟩ (.slice none 0 0) (.slice none 0 0))) := by rw [← H9.out]; exact K2.out.set _)
          | (go_at_call 53; refine (goodMethod_n a (by omega) _).mono ?_; rintro e w3 ⟨rfl, h3⟩; rw [h3, E0.out]; clear h3)
          | (go_at_call 54; refine (goodTarget_n t (by omega) _).mono ?_; rintro e w4 ⟨rfl, h4⟩; rw [h4, E1.out]; clear h4)
          | (refine wpList_store_row (by rfl) 27 (.tmp 2) (.tmp 34) (by rfl) w.heap.size (aggR ⟨#[]⟩ ⟨#[]⟩ (.slice none 0 0) (.slice none 0 0)) (by rfl) (by rfl) 27 _ K2.out.row (sz27 _ _ _ _) (by rfl) (one27 _ _ _ _ _ _ _ _) ?_; refine (show _ = w9 from H9.out) ▸ ?_))
      try simp only [Exit.inBlock, Exit.then]
      refine bodyPost_ret (res_row2 (by rfl) (by rfl) K9.out.row und27 (sz27 _ _ _ _)) rfl ?_
      exact ⟨rfl, K9.out.bel⟩
    | true =>
      cases b2 with
      | false =>
        go_enter Tryz.func44, Tryz.ntmps44
        go_wp2_with (first
            | (go_at_call 52; rw [H0.out]; refine (C1.out M0).mono ?_; rintro e w1 ⟨rfl, B1⟩
               have M1 : Hid (Mx w1) := M0.out.below B1.out
               have K1 : Hid (Bx w w1 w.heap.size 27 (aggR ⟨#[]⟩ ⟨#[]⟩ (.slice none 0 0) (.slice none 0 0))) := K0.out.below B1.out)
            | (go_at_call 52; refine (C2.out M1).mono ?_; rintro e w2 ⟨rfl, B2⟩
               have M2 : Hid (Mx w2) := M1.out.below B2.out
               have K2 : Hid (Bx w w2 w.heap.size 27 (aggR ⟨#[]⟩ ⟨#[]⟩ (.slice none 0 0) (.slice none 0 0))) := K1.out.below B2.out
               obtain ⟨w9, H9⟩ : ∃ w9, Hid (w2.setRow w.heap.size (aggR ⟨#[]⟩ ⟨#[]⟩ (.slice none 0 0) (.slice none 0 0)) = w9) := ⟨_, rfl⟩
               have K9 : Hid (Bx w w9 w.heap.size 27 (aggR ⟨#[]⟩ ⟨#[]⟩ (.slice none 0 0) (.slice none 0 0))) := by rw [← H9.out]; exact K2.out.set _)
            | (go_at_call 53; refine (goodMethod_n a (by omega) _).mono ?_; rintro e w3 ⟨rfl, h3⟩; rw [h3, E0.out]; clear h3)
            | (go_at_call 54; refine (goodTarget_n t (by omega) _).mono ?_; rintro e w4 ⟨rfl, h4⟩; rw [h4, E1.out]; clear h4)
            | (refine wpList_store_row (by rfl) 27 (.tmp 2) (.tmp 34) (by rfl) w.heap.size (aggR ⟨#[]⟩ ⟨#[]⟩ (.slice none 0 0) (.slice none 0 0)) (by rfl) (by rfl) 27 _ K2.out.row (sz27 _ _ _ _) (by rfl) (one27 _ _ _ _ _ _ _ _) ?_; refine (show _ = w9 from H9.out) ▸ ?_))
        try simp only [Exit.inBlock, Exit.then]
        refine bodyPost_ret (res_row2 (by rfl) (by rfl) K9.out.row und27 (sz27 _ _ _ _)) rfl ?_
        exact ⟨rfl, K9.out.bel⟩
      | true =>
        go_enter Tryz.func44, Tryz.ntmps44
        go_wp2_with (first
            | (go_at_call 52; rw [H0.out]; refine (C1.out M0).mono ?_; rintro e w1 ⟨rfl, B1⟩
               have M1 : Hid (Mx w1) := M0.out.below B1.out
               have K1 : Hid (Bx w w1 w.heap.size 27 (aggR ⟨#[]⟩ ⟨#[]⟩ (.slice none 0 0) (.slice none 0 0))) := K0.out.below B1.out)
            | (go_at_call 52; refine (C2.out M1).mono ?_; rintro e w2 ⟨rfl, B2⟩
               have M2 : Hid (Mx w2) := M1.out.below B2.out
               have K2 : Hid (Bx w w2 w.heap.size 27 (aggR ⟨#[]⟩ ⟨#[]⟩ (.slice none 0 0) (.slice none 0 0))) := K1.out.below B2.out
               obtain ⟨w9, H9⟩ : ∃ w9, Hid (w2.setRow w.heap.size (aggR a t (.slice none 0 0) (.slice none 0 0)) = w9) := ⟨_, rfl⟩
               have K9 : Hid (Bx w w9 w.heap.size 27 (aggR a t (.slice none 0 0) (.slice none 0 0))) := by rw [← H9.out]; exact K2.out.set _)
            | (go_at_call 53; refine (goodMethod_n a (by omega) _).mono ?_; rintro e w3 ⟨rfl, h3⟩; rw [h3, E0.out]; clear h3)
            | (go_at_call 54; refine (goodTarget_n t (by omega) _).mono ?_; rintro e w4 ⟨rfl, h4⟩; rw [h4, E1.out]; clear h4)
            | (refine wpList_store_row (by rfl) 27 (.tmp 2) (.tmp 37) (by rfl) w.heap.size (aggR a t (.slice none 0 0) (.slice none 0 0)) (by rfl) (by rfl) 27 _ K2.out.row (sz27 _ _ _ _) (by rfl) (one27 _ _ _ _ _ _ _ _) ?_; refine (show _ = w9 from H9.out) ▸ ?_))
        try simp only [Exit.inBlock, Exit.then]
        refine bodyPost_ret (res_row2 (by rfl) (by rfl) K9.out.row und27 (sz27 _ _ _ _)) rfl ?_
        exact ⟨rfl, K9.out.bel⟩
end Go.Proofs.YtemhhlongfabmaaGreatDoor
