/- Rows of bytes of the call's own: appends of slices and of strings, and where the row lies behind them. -/
import Derived.Test.YtemhhlongfabmaaGreatDoorBa
import Derived.Lib.AppendStr
namespace Go.Proofs.YtemhhlongfabmaaGreatDoor
open Go.ChangeShapes Go.WideShapes Go.ChangeAt Go.RowKit
set_option linter.unusedVariables false
set_option linter.unusedSimpArgs false
theorem spell_go (l : List Nat) : ∀ r : ByteArray, ((l.map fun x : Nat => (x : Int)).foldl (fun r n => r.push (UInt8.ofNat n.toNat)) r).data.toList = r.data.toList ++ l.map UInt8.ofNat := by
  induction l with
  | nil => intro r; simp
  | cons x l ih =>
    intro r
    simp only [List.map_cons, List.foldl_cons]
    rw [ih]
    simp [ByteArray.push]
theorem spell_data (l : List Nat) : (spell l).data.toList = l.map UInt8.ofNat := by
  have h := spell_go l ByteArray.empty
  have e : ByteArray.empty.data.toList = [] := rfl
  rw [e, List.nil_append] at h
  exact h
theorem ofNat_back {l : List Nat} (h : ∀ x ∈ l, x < 256) : (l.map UInt8.ofNat).map UInt8.toNat = l := by
  rw [List.map_map]
  conv => rhs; rw [← List.map_id l]
  refine List.map_congr_left fun x hx => ?_
  have := h x hx
  simp
  omega
theorem spell_size (l : List Nat) : (spell l).size = l.length := by
  have h := congrArg List.length (spell_data l)
  simp at h
  exact h
theorem spell_cells {l : List Nat} (h : ∀ x ∈ l, x < 256) : Lib.strCells (spell l) = l.map bv := by
  unfold Lib.strCells
  rw [spell_data, List.map_map]
  refine List.map_congr_left fun x hx => ?_
  have := h x hx
  simp [bv]
  omega
theorem spell_inj {a b : List Nat} (ha : ∀ x ∈ a, x < 256) (hb : ∀ x ∈ b, x < 256) (h : spell a = spell b) : a = b := by
  rw [← ofNat_back ha, ← ofNat_back hb, ← spell_data, ← spell_data, h]
theorem spell_beq {a b : List Nat} (ha : ∀ x ∈ a, x < 256) (hb : ∀ x ∈ b, x < 256) : ((spell a).toList == (spell b).toList) = decide (a = b) := by
  rw [ByteArray.toList_eq, ByteArray.toList_eq, spell_data, spell_data]
  by_cases h : a = b
  · subst h; simp
  · have h2 : ¬ (a.map UInt8.ofNat = b.map UInt8.ofNat) := fun e => h (by rw [← ofNat_back ha, ← ofNat_back hb, e])
    simp [h, h2]
/- a row of the call's own that reads as L: nil, or in a block from B on -/
structure Own (w : World) (B : Nat) (a : Option Addr) (n c : Nat) (L : List Nat) : Prop where
  len : n = L.length
  own : w.ownsRow B 5 1 (.slice a n c) n (L.map bv)
  lt : ∀ x ∈ L, x < 256
/- the block of a slice's address -/
/- the row lies where it lay, or in new memory -/
def New (w : World) (a a' : Option Addr) : Prop := ∀ q, blkOf a' = some q → blkOf a = some q ∨ w.heap.size ≤ q
theorem Own.nil (w : World) (B : Nat) : Own w B none 0 0 [] := ⟨rfl, World.ownsRow_nil w B 5 1, by simp⟩
theorem Own.cap0 {w : World} {B : Nat} {a : Option Addr} {n c : Nat} {L : List Nat} (h : Own w B a n c L) : a = none → c = 0 := by
  rcases h.own.2 with ⟨h1, _⟩ | ⟨g, cap, cur, h1, _⟩
  · simp at h1
    exact fun _ => h1.2.2
  · simp at h1
    intro e
    rw [e] at h1
    simp at h1
theorem Own.ge {w : World} {B : Nat} {a : Option Addr} {n c : Nat} {L : List Nat} (h : Own w B a n c L) : ∀ q, blkOf a = some q → B ≤ q ∧ q < w.heap.size := fun q hq => h.own.lt q (by rw [ownBlock_slice]; exact hq)
theorem Own.sln {w : World} {B : Nat} {a : Option Addr} {n c : Nat} {L : List Nat} (h : Own w B a n c L) (h2 : n ≤ 140737488354304) : Sln w a n L := by
  have hl := h.len
  rcases h.own.2 with ⟨h1, h0⟩ | ⟨g, cap, cur, h1, hbg, hg, _⟩
  · simp at h1
    have : L = [] := List.length_eq_zero_iff.1 (by omega)
    subst this
    exact ⟨hl, by simp, by simp, .inl rfl⟩
  · simp only [Value.slice.injEq] at h1
    have ha := h1.1
    subst ha
    have := own_sln h.own h.lt (by omega)
    exact this
theorem Own.kept {w w' : World} {B : Nat} {a : Option Addr} {n c : Nat} {L : List Nat} {row : Option Nat} (h : Own w B a n c L) (hg : w.grownBy w' row) (hne : blkOf a = none ∨ blkOf a ≠ row) : Own w' B a n c L :=
  ⟨h.len, h.own.kept hg (by rw [ownBlock_slice]; exact hne), h.lt⟩
theorem Own.base {w : World} {B B' : Nat} {a : Option Addr} {n c : Nat} {L : List Nat} (h : Own w B a n c L) (hB : B' ≤ B) : Own w B' a n c L := by
  refine ⟨h.len, ⟨h.own.1, ?_⟩, h.lt⟩
  rcases h.own.2 with h1 | ⟨g, cap, cur, h1, h2, h3⟩
  · exact .inl h1
  · exact .inr ⟨g, cap, cur, h1, by omega, h3⟩
theorem Own.block {w w' : World} {B : Nat} {a : Option Addr} {n c : Nat} {L : List Nat} (h : Own w B a n c L) (hb : ∀ q, blkOf a = some q → w'.heap[q]? = w.heap[q]?) : Own w' B a n c L := by
  refine ⟨h.len, ⟨h.own.1, ?_⟩, h.lt⟩
  rcases h.own.2 with h1 | ⟨g, cap, cur, h1, h2, h3, h4⟩
  · exact .inl h1
  · simp only [Value.slice.injEq] at h1
    obtain ⟨rfl, _, rfl⟩ := h1
    exact .inr ⟨g, c, cur, rfl, h2, (hb g rfl).trans h3, h4⟩
theorem app_any {w : World} {B : Nat} {a : Option Addr} {n c : Nat} {L : List Nat} {a2 : Option Addr} {m c2 : Nat} {l : List Nat} (ho : Own w B a n c L) (hS : Sln w a2 m l) (hc : a2 = none → c2 = 0) (hb : n + m ≤ 140737488354304) (hB : B ≤ w.heap.size) :
    ∃ a' c' w', (Builtin.append_ #[22, 22] 22 #[.slice a n c, .slice a2 m c2]).run Tryz.prog w = .ok (.slice a' (n + m) c') w' ∧ Own w' B a' (n + m) c' (L ++ l) ∧ w.grownBy w' (blkOf a) ∧ New w a a' := by
  obtain ⟨i, hi, hz0, hz1, hz2⟩ := info_parts info5
  have hlt : ∀ x ∈ L ++ l, x < 256 := by
    intro x hx
    rcases List.mem_append.1 hx with h | h
    · exact ho.lt x h
    · exact hS.lt x h
  have own := ho.own
  have e := hS.len
  have eL := ho.len
  have elen : n + m = (L ++ l).length := by simp; omega
  -- what is had of a run whose value owns the row
  have fin : ∀ (v' : Value) (w' : World), (Builtin.append_ #[22, 22] 22 #[.slice a n c, .slice a2 m c2]).run Tryz.prog w = .ok v' w' → w'.ownsRow B 5 1 v' (n + m) (L.map bv ++ l.map bv) → w.grownBy w' (blkOf a) → (∀ q, v'.ownBlock = some q → blkOf a = some q ∨ w.heap.size ≤ q) →
      ∃ a' c' w', (Builtin.append_ #[22, 22] 22 #[.slice a n c, .slice a2 m c2]).run Tryz.prog w = .ok (.slice a' (n + m) c') w' ∧ Own w' B a' (n + m) c' (L ++ l) ∧ w.grownBy w' (blkOf a) ∧ New w a a' := by
    intro v' w' hr hown hg hn
    rw [← List.map_append] at hown
    rcases hown.2 with ⟨h1, h0⟩ | ⟨g', cap', cur, h1, _⟩
    · rw [h1] at hr hown
      refine ⟨none, 0, w', ?_, ⟨elen, ?_, hlt⟩, hg, fun q hq => by simp [blkOf] at hq⟩
      · rw [hr, h0]
      · rw [h0] at hown ⊢; exact hown
    · rw [h1] at hr hown hn
      exact ⟨_, cap', w', hr, ⟨elen, hown, hlt⟩, hg, fun q hq => hn q (by rw [ownBlock_slice]; exact hq)⟩
  by_cases hl : l = []
  · subst hl
    have e0 : m = 0 := e
    subst e0
    cases a2 with
    | none =>
      have c0 := hc rfl
      subst c0
      exact fin _ w (run_append_owned_none (P := Tryz.prog) w B 22 22 5 i 1 Tryz.underlying22 hi _ n _ own) (by simpa using own) (World.grownBy.refl _ _) (fun q hq => .inl (by rw [ownBlock_slice] at hq; exact hq))
    | some ad =>
      obtain ⟨v', w', hrun, hown, hgr, hiff⟩ := run_append_own (P := Tryz.prog) w B 22 22 5 i (.int .u8 0) 1 1 Tryz.underlying22 hi hz0 hz1 hz2 rfl (by decide) _ n (L.map bv) own ad 0 c2 [] rfl (by simp) (by simp) (by unfold maxLen; omega) (by omega) hB
      rw [ownBlock_slice] at hgr
      refine fin v' w' hrun (by simpa using hown) hgr ?_
      rcases own.2 with ⟨h1, h0⟩ | ⟨g, cap, cur, h1, h2, h3, h4, h5⟩
      · have := hiff.2 ⟨h1, rfl⟩
        rw [this]
        intro q hq
        simp [Value.ownBlock] at hq
      · simp only [Value.slice.injEq, true_and] at h1
        obtain ⟨rfl, rfl⟩ := h1
        obtain ⟨w2, hr2, _, _⟩ := run_append_fits (P := Tryz.prog) w B 22 22 5 i 1 Tryz.underlying22 hi hz1 g n c (L.map bv) own ad 0 c2 [] rfl (by simp) (by simp) (by omega)
        rw [hrun] at hr2
        simp only [Result.ok.injEq] at hr2
        rw [hr2.1]
        exact fun q hq => .inl (by rw [ownBlock_slice] at hq; exact hq)
  · obtain ⟨b, off, rfl, _, r⟩ := hS.sli.2.2.resolve_left hl
    obtain ⟨v', w', hrun, hown, hgr, hiff⟩ := run_append_own (P := Tryz.prog) w B 22 22 5 i (.int .u8 0) 1 1 Tryz.underlying22 hi hz0 hz1 hz2 rfl (by decide) _ n (L.map bv) own ⟨b, off, none⟩ m c2 (l.map bv) (by simp [e]) (map_cells r) (map_one _) (by unfold maxLen; omega) (by omega) hB
    rw [ownBlock_slice] at hgr
    refine fin v' w' hrun hown hgr ?_
    have hpos : 0 < m := by rw [e]; exact List.length_pos_iff.2 hl
    rcases own.2 with ⟨h1, h0⟩ | ⟨g, cap, cur, h1, h2, h3, h4, h5⟩
    · simp at h1
      obtain ⟨rfl, rfl, rfl⟩ := h1
      have hr2 := run_append_nil (P := Tryz.prog) w 22 22 5 i (.int .u8 0) Tryz.underlying22 hi hz0 ⟨b, off, none⟩ m c2 (l.map bv) (by simp [e, hz1]) (map_cells r) hpos (by omega) (by rw [hz2]; omega)
      rw [hrun] at hr2
      simp only [Result.ok.injEq] at hr2
      rw [hr2.1]
      intro q hq
      simp [Value.ownBlock] at hq
      exact .inr (by omega)
    · simp only [Value.slice.injEq, true_and] at h1
      obtain ⟨rfl, rfl⟩ := h1
      by_cases hroom : n + m ≤ c
      · obtain ⟨w2, hr2, _, _⟩ := run_append_fits (P := Tryz.prog) w B 22 22 5 i 1 Tryz.underlying22 hi hz1 g n c (L.map bv) own ⟨b, off, none⟩ m c2 (l.map bv) (by simp [e]) (map_cells r) (map_one _) hroom
        rw [hrun] at hr2
        simp only [Result.ok.injEq] at hr2
        rw [hr2.1]
        exact fun q hq => .inl (by rw [ownBlock_slice] at hq; exact hq)
      · have hr2 := run_append_grow (P := Tryz.prog) w 22 22 5 i (.int .u8 0) Tryz.underlying22 hi hz0 ⟨g, 0, none⟩ n c (L.map bv) (by simp [eL, hz1]) (fun j u hu => own.cells (g := g) rfl j u hu) ⟨b, off, none⟩ m c2 (l.map bv) (by simp [e, hz1]) (map_cells r) (by omega) (by omega) (growslice_fits (by omega) (by rw [hz2]; omega))
        rw [hrun] at hr2
        simp only [Result.ok.injEq] at hr2
        rw [hr2.1]
        intro q hq
        simp [Value.ownBlock] at hq
        exact .inr (by omega)
theorem app_anys {w : World} {B : Nat} {a : Option Addr} {n c : Nat} {L : List Nat} {m : Nat} {l : List Nat} (ho : Own w B a n c L) (hl : ∀ x ∈ l, x < 256) (hm : m = l.length) (hb : n + m ≤ 140737488354304) (hB : B ≤ w.heap.size) :
    ∃ a' c' w', (Builtin.append_ #[22, 9] 22 #[.slice a n c, .string (spell l)]).run Tryz.prog w = .ok (.slice a' (n + m) c') w' ∧ Own w' B a' (n + m) c' (L ++ l) ∧ w.grownBy w' (blkOf a) ∧ New w a a' := by
  obtain ⟨i, hi, hz0, hz1, hz2⟩ := info_parts info5
  have hlt : ∀ x ∈ L ++ l, x < 256 := by
    intro x hx
    rcases List.mem_append.1 hx with h | h
    · exact ho.lt x h
    · exact hl x h
  have own := ho.own
  have eL := ho.len
  have es : (spell l).size = m := by rw [spell_size, hm]
  have elen : n + m = (L ++ l).length := by simp; omega
  obtain ⟨v', w', hrun, hown, hgr, hiff⟩ := Lib.run_append_own_string (P := Tryz.prog) w B 22 9 22 5 i Tryz.underlying22 Tryz.underlying9 hi hz0 hz1 hz2 (.slice a n c) n (L.map bv) own (spell l) (by unfold maxLen; omega) (by omega) hB
  rw [ownBlock_slice] at hgr
  rw [es, spell_cells hl, ← List.map_append] at hown
  have hn : ∀ q, v'.ownBlock = some q → blkOf a = some q ∨ w.heap.size ≤ q := by
    rcases own.2 with ⟨h1, h0⟩ | ⟨g, cap, cur, h1, h2, h3, h4, h5, h6, h7⟩
    · by_cases hm0 : (spell l).size = 0
      · have := hiff.2 ⟨h1, hm0⟩
        rw [this]
        intro q hq
        simp [Value.ownBlock] at hq
      · simp at h1
        obtain ⟨rfl, rfl, rfl⟩ := h1
        have hr2 := run_append_nil_string (P := Tryz.prog) w 22 9 22 5 i (.int .u8 0) Tryz.underlying22 Tryz.underlying9 hi hz0 (spell l) (by omega) (by omega) (by rw [hz2]; omega)
        rw [hrun] at hr2
        simp only [Result.ok.injEq] at hr2
        rw [hr2.1]
        intro q hq
        simp [Value.ownBlock] at hq
        exact .inr (by omega)
    · simp only [Value.slice.injEq, true_and] at h1
      obtain ⟨rfl, rfl⟩ := h1
      by_cases hroom : n + (spell l).size ≤ c
      · have hr2 := Lib.run_append_room_string (P := Tryz.prog) w 22 9 22 5 i Tryz.underlying22 Tryz.underlying9 hi hz1 g n c cur h3 (spell l) hroom (by rw [h6]; omega)
        rw [hrun] at hr2
        simp only [Result.ok.injEq] at hr2
        rw [hr2.1]
        exact fun q hq => .inl (by rw [ownBlock_slice] at hq; exact hq)
      · have hr2 := Lib.run_append_grow_string (P := Tryz.prog) w 22 9 22 5 i (.int .u8 0) Tryz.underlying22 Tryz.underlying9 hi hz0 ⟨g, 0, none⟩ n c (L.map bv) (by simp [eL, hz1]) (fun j u hu => own.cells (g := g) rfl j u hu) (spell l) (by omega) (by omega) (growslice_fits (by omega) (by rw [hz2]; omega))
        rw [hrun] at hr2
        simp only [Result.ok.injEq] at hr2
        rw [hr2.1]
        intro q hq
        simp [Value.ownBlock] at hq
        exact .inr (by omega)
  rcases hown.2 with ⟨h1, h0⟩ | ⟨g', cap', cur, h1, _⟩
  · rw [h1] at hrun hown
    refine ⟨none, 0, w', ?_, ⟨elen, ?_, hlt⟩, hgr, fun q hq => by simp [blkOf] at hq⟩
    · rw [hrun, h0]
    · rw [h0] at hown ⊢; exact hown
  · rw [h1] at hrun hown hn
    exact ⟨_, cap', w', hrun, ⟨elen, hown, hlt⟩, hgr, fun q hq => hn q (by rw [ownBlock_slice]; exact hq)⟩
/- one byte that lies in a new block of its own, appended -/
theorem app_byte {w : World} {B : Nat} {a : Option Addr} {n c : Nat} {L : List Nat} {x : Nat} (ho : Own w B a n c L) (hx : x < 256) (hb : n + 1 ≤ 140737488354304) (hB : B ≤ w.heap.size) :
    ∃ a' c' w', (Builtin.append_ #[22, 22] 22 #[.slice a n c, .slice (some ⟨w.heap.size, 0, none⟩) 1 1]).run Tryz.prog (w.alloc (.cells #[.int .u8 (x : Int)] 5)) = .ok (.slice a' (n + 1) c') w' ∧ Own w' B a' (n + 1) c' (L ++ [x]) ∧ w.grownBy w' (blkOf a) ∧ New w a a' := by
  have b1 : Blk (w.alloc (.cells #[.int .u8 (x : Int)] 5)) w.heap.size [x] := by
    show (w.heap.push _)[w.heap.size]? = _
    simp [bv]
  have g0 := World.grownBy_alloc w (.cells #[.int .u8 (x : Int)] 5) (blkOf a)
  have ho1 : Own (w.alloc (.cells #[.int .u8 (x : Int)] 5)) B a n c L := ⟨ho.len, ho.own.alloc _, ho.lt⟩
  obtain ⟨a', c', w', h1, h2, h3, h4⟩ := app_any (c2 := 1) ho1 (b1.sln (by simp; omega) (by simp)) (by simp) hb (by simp; omega)
  refine ⟨a', c', w', h1, h2, ⟨h3.os.trans g0.os, h3.tape.trans g0.tape, h3.output.trans g0.output, Nat.le_trans g0.size h3.size, fun k hk hne => (h3.block k (Nat.lt_of_lt_of_le hk g0.size) hne).trans (g0.block k hk hne)⟩, fun q hq => ?_⟩
  rcases h4 q hq with h | h
  · exact .inl h
  · exact .inr (by simp at h; omega)
theorem New.trans {w w1 : World} {a a1 a2 : Option Addr} (h : New w a a1) (h1 : New w1 a1 a2) (hs : w.heap.size ≤ w1.heap.size) : New w a a2 := by
  intro q hq
  rcases h1 q hq with h2 | h2
  · exact h q h2
  · exact .inr (by omega)
/- all but the row's block and what is new is as it was; the row moved from a to a1 meanwhile -/
theorem grown_trans {w w1 w2 : World} {a a1 : Option Addr} (h : w.grownBy w1 (blkOf a)) (h1 : w1.grownBy w2 (blkOf a1)) (hn : New w a a1) : w.grownBy w2 (blkOf a) :=
  ⟨h1.os.trans h.os, h1.tape.trans h.tape, h1.output.trans h.output, Nat.le_trans h.size h1.size, fun k hk hne => (h1.block k (Nat.lt_of_lt_of_le hk h.size) (fun e => by
    rcases hn k e.symm with h2 | h2
    · exact hne h2.symm
    · omega)).trans (h.block k hk hne)⟩
end Go.Proofs.YtemhhlongfabmaaGreatDoor
