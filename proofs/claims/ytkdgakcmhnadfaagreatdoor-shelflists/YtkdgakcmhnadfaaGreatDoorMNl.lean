import Derived.Test.YtkdgakcmhnadfaaGreatDoorMNk
/- Nl -/
/- ShelfLists' walk. -/
namespace Go.Proofs.YtkdgakcmhnadfaaGreatDoor
open Go.ChangeShapes Go.WideShapes Go.ChangeAt Go.RowKit
set_option maxRecDepth 20000
set_option linter.unusedVariables false
set_option linter.unusedSimpArgs false
/- ids and bools among the arguments -/
structure Idg (W : World) (a : Option Addr) (n : Nat) (L : List I3) : Prop where
  len : n = L.length
  row : n = 0 ∨ ∃ b o, a = some ⟨b, o, none⟩ ∧ ∀ i, i < n → W.cell? ⟨b, o + i * 3, none⟩ = some (.int .i64 (L.getD i (0, 0, 0)).1) ∧ W.cell? ⟨b, o + i * 3 + 1, none⟩ = some (.int .i64 (L.getD i (0, 0, 0)).2.1) ∧ W.cell? ⟨b, o + i * 3 + 2, none⟩ = some (.int .i64 (L.getD i (0, 0, 0)).2.2)
structure Blg (W : World) (a : Option Addr) (n : Nat) (G : List Bool) : Prop where
  len : n = G.length
  row : n = 0 ∨ ∃ b o, a = some ⟨b, o, none⟩ ∧ ∀ i, i < n → W.cell? ⟨b, o + i, none⟩ = some (.bool (G.getD i false))
theorem Idg.below {W W' : World} {a : Option Addr} {n : Nat} {L : List I3} (h : Idg W a n L) (hb : Below W.heap.size W W') : Idg W' a n L := by
  refine ⟨h.len, h.row.imp id ?_⟩
  rintro ⟨b, o, h1, h2⟩
  refine ⟨b, o, h1, fun i hi => ?_⟩
  have h3 := h2 i hi
  exact ⟨(hb.cell (p := ⟨b, o + i * 3, none⟩) (cell_lt h3.1)).trans h3.1, (hb.cell (p := ⟨b, o + i * 3 + 1, none⟩) (cell_lt h3.2.1)).trans h3.2.1, (hb.cell (p := ⟨b, o + i * 3 + 2, none⟩) (cell_lt h3.2.2)).trans h3.2.2⟩
theorem Blg.below {W W' : World} {a : Option Addr} {n : Nat} {G : List Bool} (h : Blg W a n G) (hb : Below W.heap.size W W') : Blg W' a n G := by
  refine ⟨h.len, h.row.imp id ?_⟩
  rintro ⟨b, o, h1, h2⟩
  exact ⟨b, o, h1, fun i hi => (hb.cell (p := ⟨b, o + i, none⟩) (cell_lt (h2 i hi))).trans (h2 i hi)⟩
theorem Idg.at_ {W : World} {a : Option Addr} {n : Nat} {L : List I3} (h : Idg W a n L) {i : Nat} (hi : i < n) : ∃ b o, a = some ⟨b, o, none⟩ ∧ W.cell? ⟨b, o + i * 3, none⟩ = some (.int .i64 (L.getD i (0, 0, 0)).1) ∧ W.cell? ⟨b, o + i * 3 + 1, none⟩ = some (.int .i64 (L.getD i (0, 0, 0)).2.1) ∧ W.cell? ⟨b, o + i * 3 + 2, none⟩ = some (.int .i64 (L.getD i (0, 0, 0)).2.2) := by
  rcases h.row with h1 | ⟨b, o, h1, h2⟩
  · omega
  · exact ⟨b, o, h1, h2 i hi⟩
theorem Blg.at_ {W : World} {a : Option Addr} {n : Nat} {G : List Bool} (h : Blg W a n G) {i : Nat} (hi : i < n) : ∃ b o, a = some ⟨b, o, none⟩ ∧ W.cell? ⟨b, o + i, none⟩ = some (.bool (G.getD i false)) := by
  rcases h.row with h1 | ⟨b, o, h1, h2⟩
  · omega
  · exact ⟨b, o, h1, h2 i hi⟩
/- a row of ids of the call's own -/
structure Own3 (W : World) (B : Nat) (a : Option Addr) (n c : Nat) (l : List I3) : Prop where
  own : W.ownsRow B 32 3 (.slice a n c) n (idcs l)
  len : n = l.length
theorem Own3.below {W W' : World} {B : Nat} {a : Option Addr} {n c : Nat} {l : List I3} (h : Own3 W B a n c l) (hb : Below W.heap.size W W') : Own3 W' B a n c l := ⟨own_bel h.own hb, h.len⟩
theorem Own3.ch {W W' : World} {B : Nat} {a : Option Addr} {n c : Nat} {l : List I3} {d m : Nat} (h : Own3 W B a n c l) (hc : ChD W W' d m) (hd : d < B ∧ m < B) : Own3 W' B a n c l := by
  refine ⟨⟨h.own.1, h.own.2.imp id ?_⟩, h.len⟩
  rintro ⟨q, cap, cur, e1, e2, e3, e4⟩
  exact ⟨q, cap, cur, e1, e2, (hc.block q (Array.getElem?_eq_some_iff.1 e3).1 (by omega) (by omega)).trans e3, e4⟩
theorem Own3.ids {W : World} {B : Nat} {a : Option Addr} {n c : Nat} {l : List I3} (h : Own3 W B a n c l) : Ids W a n l := by
  refine ⟨h.len, ?_⟩
  by_cases h0 : l = []
  · exact .inl h0
  · rcases h.own.2 with ⟨h1, h2⟩ | ⟨g, cap, cur, e1, _⟩
    · have := h.len
      have : l.length = 0 := by omega
      exact absurd (List.length_eq_zero_iff.1 this) h0
    · have ho := h.own
      cases e1
      exact .inr ⟨g, rfl, holds_of ho h.len⟩
/- the law's state between two rounds -/
structure LS (w1 W : World) (M : Nat) (E : Nat → Addr) (g d m B : Nat) (a : Option Addr) (n c : Nat) (v : ByteArray → Option Fl) (k i : Nat) (lf : List I3) : Prop where
  sf : Sf w1 W M E g d m ((3 : Nat) : Int) false v k
  slv : SLv v lf
  own : Own3 W B a n c lf
  k61 : k ≤ 61
  ki : k ≤ i
  lk : lf.length ≤ k
  bs : B ≤ W.heap.size
  fb : ∀ q ∈ lf, (∀ x ∈ F3 q, x < 256) ∧ (F3 q).length ≤ 4000
theorem LS.below {w1 W W' : World} {M : Nat} {E : Nat → Addr} {g d m B : Nat} {a : Option Addr} {n c : Nat} {v : ByteArray → Option Fl} {k i i' : Nat} {lf : List I3} (h : LS w1 W M E g d m B a n c v k i lf) (hb : Below W.heap.size W W') (hi : i ≤ i') : LS w1 W' M E g d m B a n c v k i' lf :=
  ⟨h.sf.below hb, h.slv, h.own.below hb, h.k61, Nat.le_trans h.ki hi, h.lk, Nat.le_trans h.bs hb.size, h.fb⟩
theorem idx_of {lf : List I3} {p : I3} {j : Nat} (hn : lf.Nodup) (hj : j < lf.length) (he : lf[j] = p) : lf.idxOf p = j := by
  have h1 : p ∈ lf := by rw [← he]; exact List.getElem_mem hj
  have h2 : lf.idxOf p < lf.length := List.idxOf_lt_length_of_mem h1
  have h3 : lf[lf.idxOf p] = p := List.getElem_idxOf h2
  rcases Nat.lt_trichotomy (lf.idxOf p) j with h4 | h4 | h4
  · exact absurd (h3.trans he.symm) (List.pairwise_iff_getElem.1 hn _ _ h2 hj h4)
  · exact h4
  · exact absurd (he.trans h3.symm) (List.pairwise_iff_getElem.1 hn _ _ hj h2 h4)
/- what the law's search has found -/
def Fnd (lf : List I3) (p : I3) (j aj : Nat) (tv : Value) : Prop := ∃ th : Bool, tv = .bool th ∧ (th = true ↔ p ∈ lf.take j) ∧ (th = true → aj = lf.idxOf p)
theorem fnd_no {lf : List I3} {p : I3} {j aj : Nat} {tv : Value} (h : Fnd lf p j aj tv) (hj : j < lf.length) (hne : lf[j] ≠ p) : Fnd lf p (j + 1) aj tv := by
  obtain ⟨th, h1, h2, h3⟩ := h
  refine ⟨th, h1, ?_, h3⟩
  rw [h2, List.take_add_one, List.getElem?_eq_getElem hj]
  simp only [Option.toList_some, List.mem_append, List.mem_singleton]
  constructor
  · exact .inl
  · rintro (h4 | h4)
    · exact h4
    · exact absurd h4.symm hne
theorem fnd_yes {lf : List I3} {p : I3} {j : Nat} (hn : lf.Nodup) (hj : j < lf.length) (he : lf[j] = p) : Fnd lf p (j + 1) j (.bool true) := by
  refine ⟨true, rfl, ?_, fun _ => (idx_of hn hj he).symm⟩
  rw [List.take_add_one, List.getElem?_eq_getElem hj]
  simp [he]
theorem own_mono {w : World} {B B' : Nat} {t : TypeId} {z : Nat} {v : Value} {n : Nat} {xs : List Value} (h : w.ownsRow B t z v n xs) (hb : B' ≤ B) : w.ownsRow B' t z v n xs := by
  refine ⟨h.1, h.2.imp id ?_⟩
  rintro ⟨q, cap, cur, e1, e2, e3, e4⟩
  exact ⟨q, cap, cur, e1, by omega, e3, e4⟩
theorem idcs_app (l r : List I3) : idcs (l ++ r) = idcs l ++ idcs r := by simp [idcs]
theorem idcs_one (l : List I3) : ∀ v ∈ idcs l, v.oneCell' = true := fun v hv => by
  unfold idcs at hv
  obtain ⟨x, _, h⟩ := List.mem_flatMap.1 hv
  exact encI_one x v h
theorem app_ids {w : World} {B : Nat} {v : Value} {l r : List I3} {ad : Addr} {c : Nat} (own : w.ownsRow B 32 3 v l.length (idcs l)) (hX : ∀ j u, (idcs r)[j]? = some u → w.cell? (ad.add j) = some u) (hl : l.length + r.length ≤ 1000000) (hB : B ≤ w.heap.size) :
    ∃ a' n' c' w', (Builtin.append_ #[53, 53] 53 #[v, .slice (some ad) r.length c]).run Tryz.prog w = .ok (.slice a' n' c') w' ∧ w'.ownsRow B 32 3 (.slice a' n' c') (l ++ r).length (idcs (l ++ r)) ∧ w.grownBy w' v.ownBlock := by
  obtain ⟨i, hi, hz0, hz1, hz2⟩ := info_parts info32
  obtain ⟨v', w', hrun, hown, hgr, _⟩ := run_append_own (P := Tryz.prog) w B 53 53 32 i _ 3 24 Tryz.underlying53 hi hz0 hz1 hz2 rfl (by decide) v l.length (idcs l) own ad r.length c (idcs r) (idcs_len r) hX (idcs_one r) (by unfold maxLen; omega) (by omega) hB
  obtain ⟨a', n', c', rfl⟩ := own_slice hown
  refine ⟨a', n', c', w', hrun, ?_, hgr⟩
  rw [idcs_app, List.length_append]
  exact hown
theorem op_app53 {o : Oper} {a : Act} {K : Act → World → Prop} {Q : Exit → Act → World → Prop} {w w' : World} {v v1 v2 : Value} (s x : Operand)
    (ho : o.op = .call { callee := .builtin .append, args := #[s, x], argTypes := #[53, 53] }) (hty : o.type = 53) (hs : a.eval s = v1) (hx : a.eval x = v2) (hrun : Hid ((Builtin.append_ #[53, 53] 53 #[v1, v2]).run Tryz.prog w = .ok v w'))
    (h : K (a.put o.dst v) w') : Oper.wp Tryz.prog o a w K Q := by
  have hr := hrun.out
  unfold Oper.wp
  simp [execOp, ho, resolve, invoke, builtin, hs, hx, hty, hr, Result.andThen]
  exact h
theorem wpList_app53 {ops : Array Oper} {rest : List Oper} {o : Oper} {a : Act} {Q : Exit → Act → World → Prop} {w w' : World} {v v1 v2 : Value} (hgd : o.guard = none) (s x : Operand)
    (ho : o.op = .call { callee := .builtin .append, args := #[s, x], argTypes := #[53, 53] }) (hty : o.type = 53) (hs : a.eval s = v1) (hx : a.eval x = v2) (hrun : Hid ((Builtin.append_ #[53, 53] 53 #[v1, v2]).run Tryz.prog w = .ok v w'))
    (h : wpList Tryz.prog ops Q rest (a.put o.dst v) w') : wpList Tryz.prog ops Q (o :: rest) a w := by
  refine wpList_plain hgd fun K hK => ?_
  exact op_app53 s x ho hty hs hx hrun (hK _ _ h)
theorem own_len {w : World} {B : Nat} {a : Option Addr} {n c k : Nat} {xs : List Value} (h : w.ownsRow B 32 3 (.slice a n c) k xs) : n = k := by
  rcases h.2 with ⟨h1, h2⟩ | ⟨g, cap, cur, h1, _⟩
  · cases h1; exact h2.symm
  · cases h1; rfl
theorem own_cap {w : World} {B : Nat} {a : Option Addr} {n c k : Nat} {xs : List Value} (h : w.ownsRow B 32 3 (.slice a n c) k xs) : n ≤ c := by
  rcases h.2 with ⟨h1, h2⟩ | ⟨g, cap, cur, h1, _, _, h4, _⟩
  · cases h1; exact Nat.le_refl _
  · cases h1; exact h4
theorem row_take {w : World} {B g n c : Nat} {l : List I3} (h : Own3 w B (some ⟨g, 0, none⟩) n c l) (k : Nat) : ∀ j u, (idcs (l.take k))[j]? = some u → w.cell? ((⟨g, 0, none⟩ : Addr).add j) = some u := by
  intro j u hu
  have hj : j < (idcs (l.take k)).length := (List.getElem?_eq_some_iff.1 hu).1
  have e : idcs l = idcs (l.take k) ++ idcs (l.drop k) := by rw [← idcs_app, List.take_append_drop]
  have h1 : (idcs l)[j]? = some u := by rw [e, List.getElem?_append_left hj]; exact hu
  have hj2 : j < n * 3 := by
    have h2 := (List.getElem?_eq_some_iff.1 h1).1
    rw [idcs_len] at h2
    rw [h.len]
    exact h2
  rw [Addr.add_mid, Nat.zero_add, h.own.cellAt j hj2]
  exact h1
theorem row_drop {w : World} {B g n c : Nat} {l : List I3} (h : Own3 w B (some ⟨g, 0, none⟩) n c l) (k : Nat) (hk : k ≤ n) : ∀ j u, (idcs (l.drop k))[j]? = some u → w.cell? ((⟨g, k * 3, none⟩ : Addr).add j) = some u := by
  intro j u hu
  have e : idcs l = idcs (l.take k) ++ idcs (l.drop k) := by rw [← idcs_app, List.take_append_drop]
  have hl : (idcs (l.take k)).length = k * 3 := by
    rw [idcs_len, List.length_take]
    have := h.len
    rw [Nat.min_eq_left (by omega)]
  have h1 : (idcs l)[k * 3 + j]? = some u := by rw [e, List.getElem?_append_right (by omega), hl, Nat.add_sub_cancel_left]; exact hu
  have hj2 : k * 3 + j < n * 3 := by
    have h2 := (List.getElem?_eq_some_iff.1 h1).1
    rw [idcs_len] at h2
    rw [h.len]
    exact h2
  rw [Addr.add_mid, h.own.cellAt _ hj2]
  exact h1
def Fn2 (lf : List I3) (p : I3) (j : Nat) (tv : Value) : Prop := ∃ th : Bool, tv = .bool th ∧ (th = true ↔ p ∈ lf.take j)
theorem fn2_no {lf : List I3} {p : I3} {j : Nat} (h : p ∉ lf.take j) (hj : j < lf.length) (hne : lf[j] ≠ p) : Fn2 lf p (j + 1) (.bool false) := by
  refine ⟨false, rfl, ?_⟩
  rw [List.take_add_one, List.getElem?_eq_getElem hj]
  simp only [Option.toList_some, List.mem_append, List.mem_singleton]
  constructor
  · intro h4; cases h4
  · rintro (h4 | h4)
    · exact absurd h4 h
    · exact absurd h4.symm hne
theorem fn2_stay {lf : List I3} {p : I3} {j : Nat} (h : p ∈ lf.take j) : Fn2 lf p (j + 1) (.bool true) := by
  refine ⟨true, rfl, ?_⟩
  rw [List.take_add_one]
  simp [h]
theorem fn2_yes {lf : List I3} {p : I3} {j : Nat} (hj : j < lf.length) (he : lf[j] = p) : Fn2 lf p (j + 1) (.bool true) := by
  refine ⟨true, rfl, ?_⟩
  rw [List.take_add_one, List.getElem?_eq_getElem hj]
  simp [he]
/- an id's variable and one of the list's ids -/
structure Ixq (W : World) (gi : Nat) (a b c : Int) (gL u : Nat) (x y z : Int) : Prop where
  x0 : W.cell? ⟨gi, 0, none⟩ = some (.int .i64 a)
  x1 : W.cell? ⟨gi, 1, none⟩ = some (.int .i64 b)
  x2 : W.cell? ⟨gi, 2, none⟩ = some (.int .i64 c)
  y0 : W.cell? ⟨gL, u * 3, none⟩ = some (.int .i64 x)
  y1 : W.cell? ⟨gL, u * 3 + 1, none⟩ = some (.int .i64 y)
  y2 : W.cell? ⟨gL, u * 3 + 2, none⟩ = some (.int .i64 z)
theorem Ixq.below {W W' : World} {gi : Nat} {a b c : Int} {gL u : Nat} {x y z : Int} (h : Ixq W gi a b c gL u x y z) (hb : Below W.heap.size W W') : Ixq W' gi a b c gL u x y z :=
  ⟨(hb.cell (p := ⟨gi, 0, none⟩) (cell_lt h.x0)).trans h.x0, (hb.cell (p := ⟨gi, 1, none⟩) (cell_lt h.x1)).trans h.x1, (hb.cell (p := ⟨gi, 2, none⟩) (cell_lt h.x2)).trans h.x2, (hb.cell (p := ⟨gL, u * 3, none⟩) (cell_lt h.y0)).trans h.y0, (hb.cell (p := ⟨gL, u * 3 + 1, none⟩) (cell_lt h.y1)).trans h.y1, (hb.cell (p := ⟨gL, u * 3 + 2, none⟩) (cell_lt h.y2)).trans h.y2⟩
set_option maxHeartbeats 8000000 in
theorem lists_n {w : World} {M : Nat} {E : Nat → Addr} (hE : Hid (Env w M E)) (hM : Hid (Mxl w)) {a1 : Option Addr} {n1 c1 : Nat} {L : List I3} (J1 : Hid (Idg w a1 n1 L)) (hn1 : n1 ≤ 140737488351232) {a2 : Option Addr} {n2 c2 : Nat} {G : List Bool} (J2 : Hid (Blg w a2 n2 G)) (hn2 : n2 ≤ 140737488351232) :
    Calls Tryz.prog 7 #[.slice a1 n1 c1, .slice a2 n2 c2] w fun e w' => e = .returned (.bool true) ∧ Hid (Below w.heap.size w w') := by
  have nd : Hid (nodeOk 3 = true) := by show _ = _; decide
  go_enter Tryz.func7, Tryz.ntmps7
  go_upto_region 7 with (first
    | (go_at_call 8; refine (alive_n hE).mono ?_; rintro e w1 ⟨rfl, H1⟩
       have V1 : Hid (Env w1 M E) := hE.out.below H1.out)
    | (go_at_call 9; refine (shnew_n 3 _ nd).mono ?_; rintro e w2 ⟨g, d, m, rfl, H2⟩
       have F2 : Hid (Sf w1 w2 M E g d m ((3 : Nat) : Int) false (fun _ => none) 0) := ⟨V1.out, H2.out.2.2.2.2.2.1, H2.out.1, H2.out.2.1.dw, H2.out.2.2.2.2.2.2, H2.out.2.2.1, H2.out.2.2.2.1, H2.out.2.2.2.2.1⟩
       have B2 : Hid (Below w.heap.size w w2) := H1.out.trans (H2.out.2.2.2.2.2.1.mono H1.out.size)))
  obtain ⟨B, HB⟩ : ∃ B, Hid (w2.heap.size = B) := ⟨_, rfl⟩
  obtain ⟨W0, HW0⟩ : ∃ W0, Hid (w2.alloc (.cells #[] 32) = W0) := ⟨_, rfl⟩
  have b0 : Hid (Below w2.heap.size w2 W0) := by rw [← HW0.out]; exact alloc1 w2 _
  have S0 : Hid (LS w1 W0 M E g d m B (some ⟨B, 0, none⟩) 0 0 (fun _ => none) 0 0 []) := by
    refine ⟨F2.out.below b0.out, slv_nil, ⟨?_, rfl⟩, by omega, by omega, by simp, by have h1 := b0.out.size; have h2 := HB.out; omega, fun q h => by cases h⟩
    rw [← HW0.out, ← HB.out]
    exact World.ownsRow_made (size := 3) w2 #[] 0 (Nat.le_refl _) (by unfold maxLen; omega) rfl
  have DM : Hid (d < B ∧ m < B ∧ w1.heap.size ≤ d ∧ w1.heap.size ≤ m ∧ w1.heap.size ≤ B) := by
    have h1 := F2.out.dv.lt
    have h2 := F2.out.ge
    have h3 := HB.out
    have h4 := F2.out.bel.size
    exact ⟨by omega, by omega, h2.2.1, h2.2.2, by omega⟩
  have SG : Hid (g < B) := by have h1 := cell_lt F2.out.shl.c0; have h2 := HB.out; show _ < _; omega
  have U1 : Hid (Idg w1 a1 n1 L ∧ Blg w1 a2 n2 G ∧ Mxl w1) := ⟨J1.out.below H1.out, J2.out.below H1.out, hM.out.below H1.out⟩
  rw [HW0.out, HB.out]
  clear H2 F2 b0 HW0 HB B2
  go_wp2
  go_loopw [35, 7] (fun ti tl wr => ∃ (i : Nat) (xa : Option Addr) (xn xc : Nat) (v : ByteArray → Option Fl) (k : Nat) (lf : List I3), i ≤ n1 ∧ ti = .int .i64 (i : Int) ∧ tl = .slice xa xn xc ∧ Hid (LS w1 wr M E g d m B xa xn xc v k i lf)) (fun ti _ _ => n1 - (intOf ti).toNat)
  case atStart => exact ⟨0, _, 0, 0, _, 0, [], by omega, rfl, rfl, S0⟩
  case round =>
    obtain ⟨i, xa, xn, xc, v, k, lf, hi, rfl, rfl, HL⟩ := hrel
    clear S0
    by_cases hlt : i < n1
    · have bw : Hid (Below w1.heap.size w1 wr) := HL.out.sf.bel
      have U2 : Hid (Idg wr a1 n1 L ∧ Blg wr a2 n2 G ∧ Mxl wr) := ⟨U1.out.1.below bw.out, U1.out.2.1.below bw.out, U1.out.2.2.below bw.out⟩
      obtain ⟨b1, o1, rfl, q0, q1, q2⟩ := U2.out.1.at_ hlt
      obtain ⟨p, Hp⟩ : ∃ p, Hid (L.getD i (0, 0, 0) = p) := ⟨_, rfl⟩
      rw [Hp.out] at q0 q1 q2
      obtain ⟨pa, pb, pc⟩ := p
      simp only at q0 q1 q2
      obtain ⟨W1, HW1⟩ : ∃ W1, Hid (wr.alloc (.cells #[.int .i64 pa, .int .i64 pb, .int .i64 pc] 32) = W1) := ⟨_, rfl⟩
      obtain ⟨gi, Hgi⟩ : ∃ gi, Hid (wr.heap.size = gi) := ⟨_, rfl⟩
      have B1 : Hid (Below wr.heap.size wr W1) := by rw [← HW1.out]; exact alloc1 wr _
      have i61 : (i : Int) ≤ 140737488351232 := by omega
      cases hg : gid pa pb pc with
      | false =>
        have GF : Hid (gid pa pb pc = false) := hg
        clear hg
        go_wp2_with (go_at_call 14; refine (goodId_n pa pb pc _).mono ?_; rintro e w3 ⟨rfl, H3⟩; rw [GF.out])
        have NX : Hid (LS w1 w3 M E g d m B xa xn xc v k (i + 1) lf) := HL.out.below ((alloc1 wr _).trans (H3.out.mono (by simp))) (by omega)
        go_roundw
        case rel => exact ⟨i + 1, xa, xn, xc, v, k, lf, by omega, by go_num, rfl, NX⟩
        case measure => simp [intOf]; omega
      | true =>
        have hgg := of_decide_eq_true hg
        obtain ⟨s1, rfl⟩ := Int.eq_ofNat_of_zero_le hgg.1.1
        obtain ⟨s2, rfl⟩ := Int.eq_ofNat_of_zero_le hgg.2.1.1
        obtain ⟨s3, rfl⟩ := Int.eq_ofNat_of_zero_le hgg.2.2.1
        have GT : Hid (gid s1 s2 s3 = true) := hg
        have GI : Hid (gdI s1 s2 s3) := ⟨decide_eq_true (by omega), decide_eq_true (by omega), decide_eq_true (by omega)⟩
        clear hg hgg
        by_cases h60 : 60 < i
        · have i60 : (60 : Int) < (i : Int) := by omega
          go_wp2_with (go_at_call 14; refine (goodId_n s1 s2 s3 _).mono ?_; rintro e w3 ⟨rfl, H3⟩; rw [GT.out])
          have NX : Hid (LS w1 w3 M E g d m B xa xn xc v k (i + 1) lf) := HL.out.below ((alloc1 wr _).trans (H3.out.mono (by simp))) (by omega)
          go_roundw
          case rel => exact ⟨i + 1, xa, xn, xc, v, k, lf, by omega, by go_num, rfl, NX⟩
          case measure => simp [intOf]; omega
        · have i60 : ¬ ((60 : Int) < (i : Int)) := by omega
          have i60' : i ≤ 60 := by omega
          go_upto_region 12 with (go_at_call 14; refine (goodId_n s1 s2 s3 _).mono ?_; rintro e w3 ⟨rfl, H3⟩; rw [GT.out])
          have W13 : Hid (Below wr.heap.size wr w3) := (alloc1 wr _).trans (H3.out.mono (by simp))
          have L3 : Hid (LS w1 w3 M E g d m B xa xn xc v k i lf) := HL.out.below W13.out (Nat.le_refl _)
          have z0 : Hid (w3.cell? ⟨gi, 0, none⟩ = some (.int .i64 (s1 : Int))) := by rw [← Hgi.out]; exact (H3.out.cell (p := ⟨wr.heap.size, 0, none⟩) (by simp)).trans (by simp)
          have z1 : Hid (w3.cell? ⟨gi, 1, none⟩ = some (.int .i64 (s2 : Int))) := by rw [← Hgi.out]; exact (H3.out.cell (p := ⟨wr.heap.size, 1, none⟩) (by simp)).trans (by simp)
          have z2 : Hid (w3.cell? ⟨gi, 2, none⟩ = some (.int .i64 (s3 : Int))) := by rw [← Hgi.out]; exact (H3.out.cell (p := ⟨wr.heap.size, 2, none⟩) (by simp)).trans (by simp)
          have U3 : Hid (Blg w3 a2 n2 G) := U2.out.2.1.below W13.out
          have GB : Hid (B ≤ gi ∧ gi < w3.heap.size) := by have h1 := HL.out.bs; have h2 := Hgi.out; have h3 := cell_lt z0.out; exact ⟨by omega, h3⟩
          obtain ⟨p, Hpp⟩ : ∃ p : I3, Hid (((s1 : Int), (s2 : Int), (s3 : Int)) = p) := ⟨_, rfl⟩
          have xl : Hid (xn = lf.length) := L3.out.own.len
          have xb : xn ≤ 61 := by have h1 := xl.out; have h2 := L3.out.lk; have h3 := L3.out.k61; omega
          have F0 : Hid (Fnd lf p 0 0 (.bool false)) := ⟨false, rfl, by simp, fun h => by cases h⟩
          rw [Hgi.out]
          clear HL H3 U2 q0 q1 q2 HW1 B1 bw W13 i60
          go_wp2
          go_loopw [49, 10, 11] (fun tj ta tt w4 => ∃ (j aj : Nat), j ≤ xn ∧ aj ≤ xn ∧ tj = .int .i64 (j : Int) ∧ ta = .int .i64 (aj : Int) ∧ Hid (Fnd lf p j aj tt) ∧ Hid (Below w3.heap.size w3 w4)) (fun tj _ _ _ => xn - (intOf tj).toNat)
          case atStart => exact ⟨0, 0, by omega, by omega, rfl, rfl, F0, Below.refl _ _⟩
          case round =>
            obtain ⟨j, aj, hj, haj, rfl, rfl, HF, HB4⟩ := hrel
            clear F0
            have L4 : Hid (LS w1 wr M E g d m B xa xn xc v k i lf) := L3.out.below HB4.out (Nat.le_refl _)
            have t0 : wr.cell? ⟨gi, 0, none⟩ = some (.int .i64 (s1 : Int)) := (HB4.out.cell (p := ⟨gi, 0, none⟩) GB.out.2).trans z0.out
            have t1 : wr.cell? ⟨gi, 1, none⟩ = some (.int .i64 (s2 : Int)) := (HB4.out.cell (p := ⟨gi, 1, none⟩) GB.out.2).trans z1.out
            have t2 : wr.cell? ⟨gi, 2, none⟩ = some (.int .i64 (s3 : Int)) := (HB4.out.cell (p := ⟨gi, 2, none⟩) GB.out.2).trans z2.out
            by_cases hjl : j < xn
            · obtain ⟨gl, rfl, r0, r1, r2⟩ := L4.out.own.ids.at_ hjl
              have hjf : j < lf.length := by have := xl.out; omega
              obtain ⟨q, Hq⟩ : ∃ q, Hid (lf[j] = q) := ⟨lf[j], (rfl : lf[j] = lf[j])⟩
              have eq0 : lf.getD j (0, 0, 0) = q := by rw [← Hq.out]; simp [List.getD, hjf]
              rw [eq0] at r0 r1 r2
              have G9 : ∀ o, (wr.alloc o).cell? ⟨gi, 0, none⟩ = some (.int .i64 (s1 : Int)) := fun o => ((alloc1 wr o).cell (p := ⟨gi, 0, none⟩) (cell_lt t0)).trans t0
              have G10 : ∀ o, (wr.alloc o).cell? ⟨gi, 1, none⟩ = some (.int .i64 (s2 : Int)) := fun o => ((alloc1 wr o).cell (p := ⟨gi, 1, none⟩) (cell_lt t1)).trans t1
              have G11 : ∀ o, (wr.alloc o).cell? ⟨gi, 2, none⟩ = some (.int .i64 (s3 : Int)) := fun o => ((alloc1 wr o).cell (p := ⟨gi, 2, none⟩) (cell_lt t2)).trans t2
              have BN : ∀ o, Hid (Below w3.heap.size w3 (wr.alloc o)) := fun o => HB4.out.trans ((alloc1 wr o).mono HB4.out.size)
              by_cases hqp : q = p
              · have FY : Hid (Fnd lf p (j + 1) j (.bool true)) := fnd_yes L4.out.slv.nd hjf (Hq.out.trans hqp)
                have EQ := eq_id (s1 : Int) (s2 : Int) (s3 : Int)
                rw [hqp, ← Hpp.out] at r0 r1 r2
                simp only at r0 r1 r2
                clear eq0 hqp Hq
                go_wp2
                go_roundw
                case rel => exact ⟨j + 1, j, by omega, by omega, by go_num, rfl, FY, BN _⟩
                case measure => simp [intOf]; omega
              · have FN : Hid (Fnd lf p (j + 1) aj u11) := fnd_no HF.out hjf (by rw [Hq.out]; exact hqp)
                obtain ⟨qa, qb, qc⟩ := q
                have EQ : ∀ w, (Op.equalIn 10000 32 (.agg #[.int .i64 qa, .int .i64 qb, .int .i64 qc]) (.agg #[.int .i64 (s1 : Int), .int .i64 (s2 : Int), .int .i64 (s3 : Int)])).run Tryz.prog w = .ok false w := fun w => by
                  rw [eq_ids]
                  cases h : (qa == (s1 : Int) && qb == (s2 : Int) && qc == (s3 : Int)) with
                  | false => rfl
                  | true =>
                    simp at h
                    exact absurd (by rw [← Hpp.out, h.1.1, h.1.2, h.2]) hqp
                simp only at r0 r1 r2
                clear eq0 hqp
                go_wp2
                go_roundw
                case rel => exact ⟨j + 1, aj, by omega, by omega, by go_num, rfl, FN, BN _⟩
                case measure => simp [intOf]; omega
            · obtain ⟨th, rfl, f2, f3⟩ := HF.out
              have ej : lf.take j = lf := List.take_of_length_le (by have := xl.out; omega)
              rw [ej] at f2
              have TH : Hid ((th = true ↔ p ∈ lf) ∧ (th = true → aj = lf.idxOf p)) := ⟨f2, f3⟩
              have P3 : Hid (gd3 p) := by rw [← Hpp.out]; exact GI.out
              have U4 : Hid (Blg wr a2 n2 G) := U3.out.below HB4.out
              clear HF ej f2 f3 L3 HB4 U3 z0 z1 z2
              by_cases h2 : i < n2
              · obtain ⟨b2, o2, rfl, qg⟩ := U4.out.at_ h2
                have ig : (i : Int) < (n2 : Int) := by omega
                cases hG : G.getD i false with
                | true =>
                  rw [hG] at qg
                  cases th with
                  | true =>
                    have MP : Hid (p ∈ lf) := TH.out.1.1 rfl
                    have AJ : Hid (aj = lf.idxOf p) := TH.out.2 rfl
                    clear TH
                    have HV : Hid (v (nmS 98 s1 s2 s3) = some (fl3 p)) := by
                      have h := L4.out.slv.val p P3.out
                      rw [if_pos MP.out, ← Hpp.out] at h
                      rw [← Hpp.out]
                      exact h
                    have F4 : Hid (Sf w1 wr M E g d m ((3 : Nat) : Int) false v k) := L4.out.sf
                    go_upto_region 23 with (go_at_call 26; refine (del_v F4 GI HV).mono ?_; rintro e w5 ⟨rfl, H5⟩)
                    have O5 : Hid (Own3 w5 B xa xn xc lf) := L4.out.own.ch H5.out.2 ⟨DM.out.1, DM.out.2.1⟩
                    have hajl : aj < lf.length := by rw [AJ.out]; exact List.idxOf_lt_length_of_mem MP.out
                    have hax : aj < xn := by have := xl.out; omega
                    obtain ⟨gl, rfl, _⟩ := O5.out.ids.at_ hax
                    have xcap : xn ≤ xc := own_cap O5.out.own
                    have glt : Hid (gl < w5.heap.size) := (O5.out.own.lt gl rfl).2
                    obtain ⟨g0, Hg0⟩ : ∃ g0, Hid (w5.heap.size = g0) := ⟨_, rfl⟩
                    obtain ⟨W6, HW6⟩ : ∃ W6, Hid ((w5.alloc (.cells #[] 32)).drew = W6) := ⟨_, rfl⟩
                    have b6 : Hid (Below w5.heap.size w5 W6) := by rw [← HW6.out]; exact (alloc1 w5 _).drew
                    have ow6 : W6.ownsRow g0 32 3 (.slice (some ⟨g0, 0, none⟩) 0 0) ([] : List I3).length (idcs []) := by
                      rw [← HW6.out, ← Hg0.out]
                      exact World.ownsRow_made (size := 3) w5 #[] 0 (Nat.le_refl _) (by unfold maxLen; omega) rfl
                    have O6 : Own3 W6 B (some ⟨gl, 0, none⟩) xn xc lf := O5.out.below b6.out
                    have tl4 : (lf.take aj).length = aj := by rw [List.length_take]; omega
                    have dl4 : (lf.drop (aj + 1)).length = xn - (aj + 1) := by rw [List.length_drop]; have := xl.out; omega
                    have l61 : lf.length ≤ 61 := by have h1 := L4.out.lk; have h2 := L4.out.k61; omega
                    obtain ⟨ya, yn, yc, W7, AP4', O7, G7⟩ := app_ids (c := xc) ow6 (row_take O6 aj) (by rw [tl4]; simp; omega) (by have := b6.out.size; have := Hg0.out; omega)
                    rw [tl4] at AP4'
                    have AP4 : Hid ((Builtin.append_ #[53, 53] 53 #[.slice (some ⟨g0, 0, none⟩) 0 0, .slice (some ⟨gl, 0, none⟩) aj xc]).run Tryz.prog W6 = .ok (.slice ya yn yc) W7) := AP4'
                    have b7 : Below g0 W6 W7 := (Below.refl g0 W6).grown G7 (by have := b6.out.size; have := Hg0.out; omega) (fun q e => by cases e; exact Nat.le_refl _)
                    have O7' : Own3 W7 B (some ⟨gl, 0, none⟩) xn xc lf := by
                      refine ⟨⟨O6.own.1, O6.own.2.imp id ?_⟩, O6.len⟩
                      rintro ⟨q, cap, cur, e1, e2, e3, e4⟩
                      cases e1
                      exact ⟨_, _, cur, rfl, e2, (b7.block gl (by have := glt.out; have := Hg0.out; omega)).trans e3, e4⟩
                    have ol7 := own_len O7
                    have ml7 : ([] ++ lf.take aj : List I3).length = aj := by rw [List.nil_append]; exact tl4
                    obtain ⟨v', Hv'⟩ : ∃ v', Hid (upd v (nmS 98 s1 s2 s3) none = v') := ⟨_, rfl⟩
                    rw [Hv'.out] at H5
                    have SV : Hid (SLv v' (lf.erase p)) := by
                      have h := L4.out.slv.del P3.out
                      rw [← Hv'.out]
                      rw [← Hpp.out] at h ⊢
                      exact h
                    have EC : Hid (lf.erase p = ([] ++ lf.take aj) ++ lf.drop (aj + 1)) := by rw [List.nil_append, AJ.out]; exact erase_cut MP.out
                    have S5 : Hid (Sf w1 w5 M E g d m ((3 : Nat) : Int) false v' k) := H5.out.1
                    have NXT : Hid (∀ (za : Option Addr) (zn zc : Nat) (W9 : World), W9.ownsRow g0 32 3 (.slice za zn zc) (([] ++ lf.take aj) ++ lf.drop (aj + 1)).length (idcs (([] ++ lf.take aj) ++ lf.drop (aj + 1))) → W7.grownBy W9 (Value.slice ya yn yc).ownBlock → LS w1 W9 M E g d m B za zn zc v' k (i + 1) (lf.erase p)) := fun za zn zc W9 O9 G9 => by
                      have h0 := Hg0.out
                      have b9 : Below g0 W7 W9 := (Below.refl g0 W7).grown G9 (by have := b6.out.size; have := b7.size; omega) (fun q e => (O7.lt q e).1)
                      have b59 : Below w5.heap.size w5 W9 := by
                        have h1 : Below w5.heap.size w5 W7 := b6.out.trans (b7.mono (by omega))
                        exact h1.trans (b9.mono (by omega))
                      rw [EC.out]
                      have hl := own_len O9
                      have hbs : B ≤ w5.heap.size := Nat.le_trans L4.out.bs H5.out.2.size
                      refine ⟨S5.out.below b59, by rw [← EC.out]; exact SV.out, ⟨?_, hl⟩, L4.out.k61, by have := L4.out.ki; omega, ?_, Nat.le_trans hbs b59.size, by rw [← EC.out]; exact fun q hq => L4.out.fb q (List.mem_of_mem_erase hq)⟩
                      · rw [hl]
                        rw [hl] at O9
                        exact own_mono O9 (by omega)
                      · rw [← EC.out]
                        exact Nat.le_trans (List.length_erase_le) L4.out.lk
                    have i5 : aj ≤ 61 := by omega
                    by_cases hxc : xc = aj + 1
                    · obtain rfl : xn = aj + 1 := by omega
                      subst hxc
                      have nil9 : lf.drop (aj + 1) = [] := List.length_eq_zero_iff.1 (by rw [dl4]; omega)
                      obtain ⟨za, zn, zc, W9, AP9', O9, G9⟩ := app_ids (c := 0) (ad := ⟨gl, 0, none⟩) (r := lf.drop (aj + 1)) O7 (by rw [nil9]; intro j u hu; simp [idcs] at hu) (by rw [ml7, dl4]; omega) (by have := b6.out.size; have := b7.size; have := Hg0.out; omega)
                      rw [nil9] at AP9'
                      have AP9 : Hid ((Builtin.append_ #[53, 53] 53 #[.slice ya yn yc, .slice (some ⟨gl, 0, none⟩) 0 0]).run Tryz.prog W7 = .ok (.slice za zn zc) W9) := AP9'
                      have NX : Hid (LS w1 W9 M E g d m B za zn zc v' k (i + 1) (lf.erase p)) := NXT.out za zn zc W9 O9 G9
                      clear NXT O9 G9 AP9' AP4' O7 G7 ow6 O6 O7' b7
                      refine wp_region_till (S := fun L W => True) (by kernel_rfl) trivial (fun hS => ?_)
                      refine till_take (i := 1) (v := .slice (some ⟨gl, 0, none⟩) (aj + 1) (aj + 1)) rfl (by kernel_rfl) (by kernel_rfl) (by kernel_rfl) (fun _ _ _ h => h) (fun L w => Iff.rfl) (Or.inl ⟨by rfl, fun w => by go_simp⟩) hS (fun hSb => ?_)
                      simp only [List.getElem_toArray, List.getElem_cons_zero, List.getElem_cons_succ, Act.put, List.setIfInBounds_toArray, List.set_cons_zero, List.set_cons_succ]
                      clear hS
                      refine till_take (i := 2) (v := .int .i64 (aj : Int)) rfl (by kernel_rfl) (by kernel_rfl) (by kernel_rfl) (fun _ _ _ h => h) (fun L w => Iff.rfl) (Or.inl ⟨by rfl, fun w => by go_simp⟩) hSb (fun hS => ?_)
                      simp only [List.getElem_toArray, List.getElem_cons_zero, List.getElem_cons_succ, Act.put, List.setIfInBounds_toArray, List.set_cons_zero, List.set_cons_succ]
                      clear hSb
                      refine till_take (i := 3) (v := .slice (some ⟨gl, 0, none⟩) aj (aj + 1)) rfl (by kernel_rfl) (by kernel_rfl) (by kernel_rfl) (fun _ _ _ h => h) (fun L w => Iff.rfl) (Or.inl ⟨by rfl, fun w => by go_simp; intro hh; omega⟩) hS (fun hSb => ?_)
                      simp only [List.getElem_toArray, List.getElem_cons_zero, List.getElem_cons_succ, Act.put, List.setIfInBounds_toArray, List.set_cons_zero, List.set_cons_succ]
                      clear hS
                      refine till_take (i := 5) (v := .slice (some ⟨gl, 0, none⟩) (aj + 1) (aj + 1)) rfl (by kernel_rfl) (by kernel_rfl) (by kernel_rfl) (fun _ _ _ h => h) (fun L w => Iff.rfl) (Or.inl ⟨by rfl, fun w => by go_simp⟩) hSb (fun hS => ?_)
                      simp only [List.getElem_toArray, List.getElem_cons_zero, List.getElem_cons_succ, Act.put, List.setIfInBounds_toArray, List.set_cons_zero, List.set_cons_succ]
                      clear hSb
                      refine till_take (i := 6) (v := .int .i64 (aj : Int)) rfl (by kernel_rfl) (by kernel_rfl) (by kernel_rfl) (fun _ _ _ h => h) (fun L w => Iff.rfl) (Or.inl ⟨by rfl, fun w => by go_simp⟩) hS (fun hSb => ?_)
                      simp only [List.getElem_toArray, List.getElem_cons_zero, List.getElem_cons_succ, Act.put, List.setIfInBounds_toArray, List.set_cons_zero, List.set_cons_succ]
                      clear hS
                      refine till_take (i := 7) (v := .int .i64 ((aj : Int) + 1)) rfl (by kernel_rfl) (by kernel_rfl) (by kernel_rfl) (fun _ _ _ h => h) (fun L w => Iff.rfl) (Or.inl ⟨by rfl, fun w => by go_simp; rw [IntKind.wrap_i64]; omega⟩) hSb (fun hS => ?_)
                      simp only [List.getElem_toArray, List.getElem_cons_zero, List.getElem_cons_succ, Act.put, List.setIfInBounds_toArray, List.set_cons_zero, List.set_cons_succ]
                      clear hSb
                      refine till_take (i := 8) (v := .slice (some ⟨gl, 0, none⟩) 0 0) rfl (by kernel_rfl) (by kernel_rfl) (by kernel_rfl) (fun _ _ _ h => h) (fun L w => Iff.rfl) (Or.inl ⟨by rfl, fun w => by go_simp; intro hh; omega⟩) hS (fun hSb => ?_)
                      simp only [List.getElem_toArray, List.getElem_cons_zero, List.getElem_cons_succ, Act.put, List.setIfInBounds_toArray, List.set_cons_zero, List.set_cons_succ]
                      clear hS
                      refine till_one (i := 0) (by kernel_rfl) rfl (fun K hK => ?_)
                      simp only [List.getElem_toArray, List.getElem_cons_zero, List.getElem_cons_succ]
                      rw [if_pos (by rfl)]
                      go_simp
                      rw [HW6.out, Hg0.out]
                      refine hK.out _ _ (trivial) (fun hS => ?_)
                      clear hK K
                      try simp only [List.getElem_toArray, List.getElem_cons_zero, List.getElem_cons_succ, Act.put, List.setIfInBounds_toArray, List.set_cons_zero, List.set_cons_succ]
                      clear hSb
                      refine till_one (i := 4) (by kernel_rfl) rfl (fun K hK => ?_)
                      simp only [List.getElem_toArray, List.getElem_cons_zero, List.getElem_cons_succ]
                      rw [if_pos (by rfl)]
                      refine op_app53 (.tmp 76) (.tmp 79) (by rfl) (by rfl) (by rfl) (by rfl) AP4 ?_
                      refine hK.out _ _ (trivial) (fun hSb => ?_)
                      clear hK K
                      try simp only [List.getElem_toArray, List.getElem_cons_zero, List.getElem_cons_succ, Act.put, List.setIfInBounds_toArray, List.set_cons_zero, List.set_cons_succ]
                      clear hS
                      refine till_one (i := 9) (by kernel_rfl) rfl (fun K hK => ?_)
                      simp only [List.getElem_toArray, List.getElem_cons_zero, List.getElem_cons_succ]
                      rw [if_pos (by rfl)]
                      refine op_app53 (.tmp 80) (.tmp 84) (by rfl) (by rfl) (by rfl) (by rfl) AP9 ?_
                      refine hK.out _ _ (trivial) (fun hS => ?_)
                      clear hK K
                      try simp only [List.getElem_toArray, List.getElem_cons_zero, List.getElem_cons_succ, Act.put, List.setIfInBounds_toArray, List.set_cons_zero, List.set_cons_succ]
                      clear hSb
                      refine till_one (i := 10) (by kernel_rfl) rfl (fun K hK => ?_)
                      simp only [List.getElem_toArray, List.getElem_cons_zero, List.getElem_cons_succ]
                      rw [if_pos (by rfl)]
                      go_simp
                      refine hK.out _ _ (trivial) (fun hSb => ?_)
                      clear hK K
                      try simp only [List.getElem_toArray, List.getElem_cons_zero, List.getElem_cons_succ, Act.put, List.setIfInBounds_toArray, List.set_cons_zero, List.set_cons_succ]
                      clear hS
                      refine till_done (by kernel_rfl) ?_ _
                      clear hSb
                      go_wp2
                      go_roundw
                      case rel => exact ⟨i + 1, za, zn, zc, v', k, lf.erase p, by omega, by go_num, rfl, NX⟩
                      case measure => simp [intOf]; omega
                    · obtain ⟨za, zn, zc, W9, AP9', O9, G9⟩ := app_ids (c := xc - (aj + 1)) (ad := ⟨gl, (aj + 1) * 3, none⟩) (r := lf.drop (aj + 1)) O7 (row_drop O7' (aj + 1) (by omega)) (by rw [ml7, dl4]; omega) (by have := b6.out.size; have := b7.size; have := Hg0.out; omega)
                      rw [dl4] at AP9'
                      have AP9 : Hid ((Builtin.append_ #[53, 53] 53 #[.slice ya yn yc, .slice (some ⟨gl, (aj + 1) * 3, none⟩) (xn - (aj + 1)) (xc - (aj + 1))]).run Tryz.prog W7 = .ok (.slice za zn zc) W9) := AP9'
                      have NX : Hid (LS w1 W9 M E g d m B za zn zc v' k (i + 1) (lf.erase p)) := NXT.out za zn zc W9 O9 G9
                      clear NXT O9 G9 AP9' AP4' O7 G7 ow6 O6 O7' b7
                      refine wp_region_till (S := fun L W => True) (by kernel_rfl) trivial (fun hS => ?_)
                      refine till_take (i := 1) (v := .slice (some ⟨gl, 0, none⟩) xn xc) rfl (by kernel_rfl) (by kernel_rfl) (by kernel_rfl) (fun _ _ _ h => h) (fun L w => Iff.rfl) (Or.inl ⟨by rfl, fun w => by go_simp⟩) hS (fun hSb => ?_)
                      simp only [List.getElem_toArray, List.getElem_cons_zero, List.getElem_cons_succ, Act.put, List.setIfInBounds_toArray, List.set_cons_zero, List.set_cons_succ]
                      clear hS
                      refine till_take (i := 2) (v := .int .i64 (aj : Int)) rfl (by kernel_rfl) (by kernel_rfl) (by kernel_rfl) (fun _ _ _ h => h) (fun L w => Iff.rfl) (Or.inl ⟨by rfl, fun w => by go_simp⟩) hSb (fun hS => ?_)
                      simp only [List.getElem_toArray, List.getElem_cons_zero, List.getElem_cons_succ, Act.put, List.setIfInBounds_toArray, List.set_cons_zero, List.set_cons_succ]
                      clear hSb
                      refine till_take (i := 3) (v := .slice (some ⟨gl, 0, none⟩) aj xc) rfl (by kernel_rfl) (by kernel_rfl) (by kernel_rfl) (fun _ _ _ h => h) (fun L w => Iff.rfl) (Or.inl ⟨by rfl, fun w => by go_simp; intro hh; omega⟩) hS (fun hSb => ?_)
                      simp only [List.getElem_toArray, List.getElem_cons_zero, List.getElem_cons_succ, Act.put, List.setIfInBounds_toArray, List.set_cons_zero, List.set_cons_succ]
                      clear hS
                      refine till_take (i := 5) (v := .slice (some ⟨gl, 0, none⟩) xn xc) rfl (by kernel_rfl) (by kernel_rfl) (by kernel_rfl) (fun _ _ _ h => h) (fun L w => Iff.rfl) (Or.inl ⟨by rfl, fun w => by go_simp⟩) hSb (fun hS => ?_)
                      simp only [List.getElem_toArray, List.getElem_cons_zero, List.getElem_cons_succ, Act.put, List.setIfInBounds_toArray, List.set_cons_zero, List.set_cons_succ]
                      clear hSb
                      refine till_take (i := 6) (v := .int .i64 (aj : Int)) rfl (by kernel_rfl) (by kernel_rfl) (by kernel_rfl) (fun _ _ _ h => h) (fun L w => Iff.rfl) (Or.inl ⟨by rfl, fun w => by go_simp⟩) hS (fun hSb => ?_)
                      simp only [List.getElem_toArray, List.getElem_cons_zero, List.getElem_cons_succ, Act.put, List.setIfInBounds_toArray, List.set_cons_zero, List.set_cons_succ]
                      clear hS
                      refine till_take (i := 7) (v := .int .i64 ((aj : Int) + 1)) rfl (by kernel_rfl) (by kernel_rfl) (by kernel_rfl) (fun _ _ _ h => h) (fun L w => Iff.rfl) (Or.inl ⟨by rfl, fun w => by go_simp; rw [IntKind.wrap_i64]; omega⟩) hSb (fun hS => ?_)
                      simp only [List.getElem_toArray, List.getElem_cons_zero, List.getElem_cons_succ, Act.put, List.setIfInBounds_toArray, List.set_cons_zero, List.set_cons_succ]
                      clear hSb
                      refine till_take (i := 8) (v := .slice (some ⟨gl, (aj + 1) * 3, none⟩) (xn - (aj + 1)) (xc - (aj + 1))) rfl (by kernel_rfl) (by kernel_rfl) (by kernel_rfl) (fun _ _ _ h => h) (fun L w => Iff.rfl) (Or.inl ⟨by rfl, fun w => by go_simp; intro hh; exact absurd (hh (by omega)) (by omega)⟩) hS (fun hSb => ?_)
                      simp only [List.getElem_toArray, List.getElem_cons_zero, List.getElem_cons_succ, Act.put, List.setIfInBounds_toArray, List.set_cons_zero, List.set_cons_succ]
                      clear hS
                      refine till_one (i := 0) (by kernel_rfl) rfl (fun K hK => ?_)
                      simp only [List.getElem_toArray, List.getElem_cons_zero, List.getElem_cons_succ]
                      rw [if_pos (by rfl)]
                      go_simp
                      rw [HW6.out, Hg0.out]
                      refine hK.out _ _ (trivial) (fun hS => ?_)
                      clear hK K
                      try simp only [List.getElem_toArray, List.getElem_cons_zero, List.getElem_cons_succ, Act.put, List.setIfInBounds_toArray, List.set_cons_zero, List.set_cons_succ]
                      clear hSb
                      refine till_one (i := 4) (by kernel_rfl) rfl (fun K hK => ?_)
                      simp only [List.getElem_toArray, List.getElem_cons_zero, List.getElem_cons_succ]
                      rw [if_pos (by rfl)]
                      refine op_app53 (.tmp 76) (.tmp 79) (by rfl) (by rfl) (by rfl) (by rfl) AP4 ?_
                      refine hK.out _ _ (trivial) (fun hSb => ?_)
                      clear hK K
                      try simp only [List.getElem_toArray, List.getElem_cons_zero, List.getElem_cons_succ, Act.put, List.setIfInBounds_toArray, List.set_cons_zero, List.set_cons_succ]
                      clear hS
                      refine till_one (i := 9) (by kernel_rfl) rfl (fun K hK => ?_)
                      simp only [List.getElem_toArray, List.getElem_cons_zero, List.getElem_cons_succ]
                      rw [if_pos (by rfl)]
                      refine op_app53 (.tmp 80) (.tmp 84) (by rfl) (by rfl) (by rfl) (by rfl) AP9 ?_
                      refine hK.out _ _ (trivial) (fun hS => ?_)
                      clear hK K
                      try simp only [List.getElem_toArray, List.getElem_cons_zero, List.getElem_cons_succ, Act.put, List.setIfInBounds_toArray, List.set_cons_zero, List.set_cons_succ]
                      clear hSb
                      refine till_one (i := 10) (by kernel_rfl) rfl (fun K hK => ?_)
                      simp only [List.getElem_toArray, List.getElem_cons_zero, List.getElem_cons_succ]
                      rw [if_pos (by rfl)]
                      go_simp
                      refine hK.out _ _ (trivial) (fun hSb => ?_)
                      clear hK K
                      try simp only [List.getElem_toArray, List.getElem_cons_zero, List.getElem_cons_succ, Act.put, List.setIfInBounds_toArray, List.set_cons_zero, List.set_cons_succ]
                      clear hS
                      refine till_done (by kernel_rfl) ?_ _
                      clear hSb
                      go_wp2
                      go_roundw
                      case rel => exact ⟨i + 1, za, zn, zc, v', k, lf.erase p, by omega, by go_num, rfl, NX⟩
                      case measure => simp [intOf]; omega
                  | false =>
                    have MN : Hid (p ∉ lf) := fun h => by have := TH.out.1.2 h; cases this
                    clear TH
                    have HV : Hid (v (nmS 98 s1 s2 s3) = none) := by
                      have h := L4.out.slv.val p P3.out
                      rw [if_neg MN.out, ← Hpp.out] at h
                      exact h
                    have F4 : Hid (Sf w1 wr M E g d m ((3 : Nat) : Int) false v k) := L4.out.sf
                    go_wp2_with (go_at_call 26; refine (del_gone F4 GI HV).mono ?_; rintro e w5 ⟨rfl, H5⟩)
                    have NX : Hid (LS w1 w5 M E g d m B xa xn xc v k (i + 1) lf) := ⟨H5.out.1, L4.out.slv, L4.out.own.ch H5.out.2 ⟨DM.out.1, DM.out.2.1⟩, L4.out.k61, by have := L4.out.ki; omega, L4.out.lk, Nat.le_trans L4.out.bs H5.out.2.size, L4.out.fb⟩
                    go_roundw
                    case rel => exact ⟨i + 1, xa, xn, xc, v, k, lf, by omega, by go_num, rfl, NX⟩
                    case measure => simp [intOf]; omega
                | false =>
                  rw [hG] at qg
                  cases th with
                  | true =>
                    have MP : Hid (p ∈ lf) := TH.out.1.1 rfl
                    have AJ : Hid (aj = lf.idxOf p) := TH.out.2 rfl
                    clear TH
                    obtain ⟨F, HFF⟩ : ∃ F, Hid (frameL [1, s1, s2, s3, 3, 1, 1] [7] = F) := ⟨_, rfl⟩
                    have E3 : Hid (F3 p = F) := by rw [← Hpp.out, ← HFF.out]; rfl
                    have G3 : Hid (getS F = ([s1, s2, s3, 3, 1], [7], 0)) := by
                      have h := get3 P3.out
                      rw [E3.out, ← Hpp.out] at h
                      exact h
                    have G0 : Hid ((getS F).2.2 = 0) := by rw [G3.out]; rfl
                    have G1 : Hid ((getS F).1 = [s1, s2, s3, 3, 1]) := by rw [G3.out]; rfl
                    have OK3 : Hid (okN [1, (s1 : Int), s2, s3, ((3 : Nat) : Int), ((1 : Nat) : Int), 0] = true) := ok_t GT.out (by omega) (by omega) (by omega) (by omega)
                    have S7 : Hid (Sln (wr.alloc (.cells #[.int .u8 7] 5)) (some ⟨wr.heap.size, 0, none⟩) 1 [7]) := by
                      have hb7 : Blk (wr.alloc (.cells #[.int .u8 7] 5)) wr.heap.size [7] := heap_alloc_new wr _
                      exact hb7.sln (by decide) (by decide)
                    have Z7 : Hid ((some (⟨wr.heap.size, 0, none⟩ : Addr)) = none → 1 = 0) := fun h => by cases h
                    have K5 : Hid (k < 512) := by have h := L4.out.k61; show _ < _; omega
                    have L5 : ∀ o, Hid (LS w1 (wr.alloc o) M E g d m B xa xn xc v k i lf) := fun o => L4.out.below (alloc1 wr o) (Nat.le_refl _)
                    go_upto_region 26 with (first
                      | (go_at_call 15; refine (refPut_n s1 s2 s3 3 1 1 1 (some ⟨wr.heap.size, 0, none⟩) [7] S7 Z7 (by omega) OK3 (by omega)).mono ?_; rintro e w5 ⟨af, N, cf, rfl, H5⟩
                         rw [HFF.out] at H5
                         have L6 : Hid (LS w1 w5 M E g d m B xa xn xc v k i lf) := (L5 _).out.below H5.out.2.2 (Nat.le_refl _)
                         have F6 : Hid (Sf w1 w5 M E g d m ((3 : Nat) : Int) false v k) := L6.out.sf
                         have FB5 : Hid ((∀ x ∈ F3 p, x < 256) ∧ (F3 p).length ≤ 4000) := by rw [E3.out]; exact ⟨H5.out.1.lt, by have := H5.out.1.len; have := H5.out.2.1; omega⟩
                         have A5 : Hid (Sln w5 af N F) := H5.out.1.sln (by have := H5.out.2.1; omega)
                         have Z5 : Hid (af = none → cf = 0) := H5.out.1.cap0
                         have e5 : N ≤ cf := H5.out.1.cap
                         have P5 : Hid (∀ q, blkOf af = some q → q ≠ d ∧ q ≠ m) := fun q hq => by
                           have h1 := H5.out.1.ge q hq
                           have h2 := DM.out
                           have h3 := L4.out.bs
                           simp at h1
                           omega
                         have B5 : Hid (Below wr.heap.size wr w5) := (alloc1 wr _).trans (H5.out.2.2.mono (by simp))
                         have u0 : Hid (w5.cell? ⟨gi, 0, none⟩ = some (.int .i64 (s1 : Int))) := (B5.out.cell (p := ⟨gi, 0, none⟩) (cell_lt t0)).trans t0
                         have u1 : Hid (w5.cell? ⟨gi, 1, none⟩ = some (.int .i64 (s2 : Int))) := (B5.out.cell (p := ⟨gi, 1, none⟩) (cell_lt t1)).trans t1
                         have u2 : Hid (w5.cell? ⟨gi, 2, none⟩ = some (.int .i64 (s3 : Int))) := (B5.out.cell (p := ⟨gi, 2, none⟩) (cell_lt t2)).trans t2)
                      | (go_at_call 16; refine (put_v F6 K5 A5 Z5 e5 P5 G0 G1).mono ?_; rintro e w6 ⟨rfl, H6⟩))
                    obtain ⟨v', Hv'⟩ : ∃ v', Hid (upd (upd v (nmS 116 s1 s2 s3) none) (nmS 98 s1 s2 s3) (some ⟨spell F, spell F, true⟩) = v') := ⟨_, rfl⟩
                    rw [Hv'.out] at H6
                    have SV : Hid (SLv v' (if p ∈ lf then lf else lf ++ [p])) := by
                      have h := L4.out.slv.put P3.out
                      have e9 : fl3 p = ⟨spell F, spell F, true⟩ := by unfold fl3; rw [E3.out]
                      rw [e9] at h
                      rw [← Hv'.out, ← Hpp.out]
                      rw [← Hpp.out] at h
                      exact h
                    have O6 : Hid (Own3 w6 B xa xn xc lf) := L6.out.own.ch H6.out.2 ⟨DM.out.1, DM.out.2.1⟩
                    have gdm : Hid (gi ≠ d ∧ gi ≠ m) := by have h1 := GB.out; have h2 := DM.out; exact ⟨by omega, by omega⟩
                    have c0 : w6.cell? ⟨gi, 0, none⟩ = some (.int .i64 (s1 : Int)) := (H6.out.2.cell (cell_lt u0.out) gdm.out).trans u0.out
                    have c1' : w6.cell? ⟨gi, 1, none⟩ = some (.int .i64 (s2 : Int)) := (H6.out.2.cell (cell_lt u1.out) gdm.out).trans u1.out
                    have c2' : w6.cell? ⟨gi, 2, none⟩ = some (.int .i64 (s3 : Int)) := (H6.out.2.cell (cell_lt u2.out) gdm.out).trans u2.out
                    have S6 : Hid (Sf w1 w6 M E g d m ((3 : Nat) : Int) false v' (k + 1)) := H6.out.1
                    have Q6 : Hid (k + 1 ≤ 61 ∧ k + 1 ≤ i + 1 ∧ lf.length ≤ k ∧ B ≤ w6.heap.size) := by have h1 := L4.out.ki; have h2 := L4.out.lk; have h3 := L6.out.bs; have h4 := H6.out.2.size; exact ⟨by omega, by omega, h2, by omega⟩
                    clear H5 H6 S7 Z7 L5 t0 t1 t2
                    rw [if_pos MP.out] at SV
                    go_wp2
                    have NX : Hid (LS w1 w6 M E g d m B xa xn xc v' (k + 1) (i + 1) lf) := ⟨S6.out, SV.out, O6.out, Q6.out.1, Q6.out.2.1, by have := Q6.out; omega, Q6.out.2.2.2, L6.out.fb⟩
                    go_roundw
                    case rel => exact ⟨i + 1, xa, xn, xc, v', k + 1, lf, by omega, by go_num, rfl, NX⟩
                    case measure => simp [intOf]; omega
                  | false =>
                    have MN : Hid (p ∉ lf) := fun h => by have := TH.out.1.2 h; cases this
                    clear TH
                    obtain ⟨F, HFF⟩ : ∃ F, Hid (frameL [1, s1, s2, s3, 3, 1, 1] [7] = F) := ⟨_, rfl⟩
                    have E3 : Hid (F3 p = F) := by rw [← Hpp.out, ← HFF.out]; rfl
                    have G3 : Hid (getS F = ([s1, s2, s3, 3, 1], [7], 0)) := by
                      have h := get3 P3.out
                      rw [E3.out, ← Hpp.out] at h
                      exact h
                    have G0 : Hid ((getS F).2.2 = 0) := by rw [G3.out]; rfl
                    have G1 : Hid ((getS F).1 = [s1, s2, s3, 3, 1]) := by rw [G3.out]; rfl
                    have OK3 : Hid (okN [1, (s1 : Int), s2, s3, ((3 : Nat) : Int), ((1 : Nat) : Int), 0] = true) := ok_t GT.out (by omega) (by omega) (by omega) (by omega)
                    have S7 : Hid (Sln (wr.alloc (.cells #[.int .u8 7] 5)) (some ⟨wr.heap.size, 0, none⟩) 1 [7]) := by
                      have hb7 : Blk (wr.alloc (.cells #[.int .u8 7] 5)) wr.heap.size [7] := heap_alloc_new wr _
                      exact hb7.sln (by decide) (by decide)
                    have Z7 : Hid ((some (⟨wr.heap.size, 0, none⟩ : Addr)) = none → 1 = 0) := fun h => by cases h
                    have K5 : Hid (k < 512) := by have h := L4.out.k61; show _ < _; omega
                    have L5 : ∀ o, Hid (LS w1 (wr.alloc o) M E g d m B xa xn xc v k i lf) := fun o => L4.out.below (alloc1 wr o) (Nat.le_refl _)
                    go_upto_region 26 with (first
                      | (go_at_call 15; refine (refPut_n s1 s2 s3 3 1 1 1 (some ⟨wr.heap.size, 0, none⟩) [7] S7 Z7 (by omega) OK3 (by omega)).mono ?_; rintro e w5 ⟨af, N, cf, rfl, H5⟩
                         rw [HFF.out] at H5
                         have L6 : Hid (LS w1 w5 M E g d m B xa xn xc v k i lf) := (L5 _).out.below H5.out.2.2 (Nat.le_refl _)
                         have F6 : Hid (Sf w1 w5 M E g d m ((3 : Nat) : Int) false v k) := L6.out.sf
                         have FB5 : Hid ((∀ x ∈ F3 p, x < 256) ∧ (F3 p).length ≤ 4000) := by rw [E3.out]; exact ⟨H5.out.1.lt, by have := H5.out.1.len; have := H5.out.2.1; omega⟩
                         have A5 : Hid (Sln w5 af N F) := H5.out.1.sln (by have := H5.out.2.1; omega)
                         have Z5 : Hid (af = none → cf = 0) := H5.out.1.cap0
                         have e5 : N ≤ cf := H5.out.1.cap
                         have P5 : Hid (∀ q, blkOf af = some q → q ≠ d ∧ q ≠ m) := fun q hq => by
                           have h1 := H5.out.1.ge q hq
                           have h2 := DM.out
                           have h3 := L4.out.bs
                           simp at h1
                           omega
                         have B5 : Hid (Below wr.heap.size wr w5) := (alloc1 wr _).trans (H5.out.2.2.mono (by simp))
                         have u0 : Hid (w5.cell? ⟨gi, 0, none⟩ = some (.int .i64 (s1 : Int))) := (B5.out.cell (p := ⟨gi, 0, none⟩) (cell_lt t0)).trans t0
                         have u1 : Hid (w5.cell? ⟨gi, 1, none⟩ = some (.int .i64 (s2 : Int))) := (B5.out.cell (p := ⟨gi, 1, none⟩) (cell_lt t1)).trans t1
                         have u2 : Hid (w5.cell? ⟨gi, 2, none⟩ = some (.int .i64 (s3 : Int))) := (B5.out.cell (p := ⟨gi, 2, none⟩) (cell_lt t2)).trans t2)
                      | (go_at_call 16; refine (put_v F6 K5 A5 Z5 e5 P5 G0 G1).mono ?_; rintro e w6 ⟨rfl, H6⟩))
                    obtain ⟨v', Hv'⟩ : ∃ v', Hid (upd (upd v (nmS 116 s1 s2 s3) none) (nmS 98 s1 s2 s3) (some ⟨spell F, spell F, true⟩) = v') := ⟨_, rfl⟩
                    rw [Hv'.out] at H6
                    have SV : Hid (SLv v' (if p ∈ lf then lf else lf ++ [p])) := by
                      have h := L4.out.slv.put P3.out
                      have e9 : fl3 p = ⟨spell F, spell F, true⟩ := by unfold fl3; rw [E3.out]
                      rw [e9] at h
                      rw [← Hv'.out, ← Hpp.out]
                      rw [← Hpp.out] at h
                      exact h
                    have O6 : Hid (Own3 w6 B xa xn xc lf) := L6.out.own.ch H6.out.2 ⟨DM.out.1, DM.out.2.1⟩
                    have gdm : Hid (gi ≠ d ∧ gi ≠ m) := by have h1 := GB.out; have h2 := DM.out; exact ⟨by omega, by omega⟩
                    have c0 : w6.cell? ⟨gi, 0, none⟩ = some (.int .i64 (s1 : Int)) := (H6.out.2.cell (cell_lt u0.out) gdm.out).trans u0.out
                    have c1' : w6.cell? ⟨gi, 1, none⟩ = some (.int .i64 (s2 : Int)) := (H6.out.2.cell (cell_lt u1.out) gdm.out).trans u1.out
                    have c2' : w6.cell? ⟨gi, 2, none⟩ = some (.int .i64 (s3 : Int)) := (H6.out.2.cell (cell_lt u2.out) gdm.out).trans u2.out
                    have S6 : Hid (Sf w1 w6 M E g d m ((3 : Nat) : Int) false v' (k + 1)) := H6.out.1
                    have Q6 : Hid (k + 1 ≤ 61 ∧ k + 1 ≤ i + 1 ∧ lf.length ≤ k ∧ B ≤ w6.heap.size) := by have h1 := L4.out.ki; have h2 := L4.out.lk; have h3 := L6.out.bs; have h4 := H6.out.2.size; exact ⟨by omega, by omega, h2, by omega⟩
                    clear H5 H6 S7 Z7 L5 t0 t1 t2
                    rw [if_neg MN.out] at SV
                    obtain ⟨W7, HW7⟩ : ∃ W7, Hid (w6.alloc (.cells #[.int .i64 (s1 : Int), .int .i64 (s2 : Int), .int .i64 (s3 : Int)] 32) = W7) := ⟨_, rfl⟩
                    have b7 : Hid (Below w6.heap.size w6 W7) := by rw [← HW7.out]; exact alloc1 w6 _
                    have N7 : W7.heap[w6.heap.size]? = some (.cells (encI p).toArray 32 (0, 0)) := by rw [← HW7.out, ← Hpp.out]; exact heap_alloc_new w6 _
                    have O7 : Own3 W7 B xa xn xc lf := O6.out.below b7.out
                    have ow7 : W7.ownsRow B 32 3 (.slice xa xn xc) lf.length (idcs lf) := by rw [← O7.len]; exact O7.own
                    obtain ⟨y8, W8, AP0, O8, G8⟩ := app_id ow7 N7 (by have := Q6.out; omega) (by have := Q6.out; have := b7.out.size; omega)
                    obtain ⟨ya, yn, yc, rfl⟩ := own_slice O8
                    have AP : Hid ((Builtin.append_ #[53, 53] 53 #[.slice xa xn xc, .slice (some ⟨w6.heap.size, 0, none⟩) 1 1]).run Tryz.prog (w6.alloc (.cells #[.int .i64 (s1 : Int), .int .i64 (s2 : Int), .int .i64 (s3 : Int)] 32)) = .ok (.slice ya yn yc) W8) := by rw [HW7.out]; exact AP0
                    have NX : Hid (LS w1 W8 M E g d m B ya yn yc v' (k + 1) (i + 1) (lf ++ [p])) := by
                      have hbel : Below B W7 W8 := (Below.refl B W7).grown G8 (by have := Q6.out; have := b7.out.size; omega) (fun q e => (ow7.lt q e).1)
                      have hbig : ∀ q, q < B → W8.heap[q]? = w6.heap[q]? := fun q hq => (hbel.block q hq).trans (b7.out.block q (by have := Q6.out; omega))
                      have hsz : w6.heap.size ≤ W8.heap.size := Nat.le_trans b7.out.size G8.size
                      have hB68 : Below B w6 W8 := ⟨by rw [G8.os, b7.out.os], by rw [G8.tape, b7.out.tape], by rw [G8.output, b7.out.output], hsz, hbig⟩
                      have hdm := DM.out
                      have sf8 : Sf w1 W8 M E g d m ((3 : Nat) : Int) false v' (k + 1) := by
                        have hs := S6.out
                        have gB : g < B := by have h1 := SG.out; exact h1
                        refine ⟨hs.env, hs.bel.trans (hB68.mono hdm.2.2.2.2), ⟨?_, ?_⟩, ?_, hs.ne, hs.ge⟩
                        · exact (hB68.cell (p := ⟨g, 0, none⟩) gB).trans hs.shl.c0
                        · exact (hB68.cell (p := ⟨g, 1, none⟩) gB).trans hs.shl.c1
                        · obtain ⟨D, lo, z1, z2, z3⟩ := hs.dv
                          exact ⟨D, lo, z1.keep (hB68.block d hdm.1) (hB68.block m hdm.2.1), z2, z3⟩
                      have hlen : yn = (lf ++ [p]).length := own_len O8
                      refine ⟨sf8, SV.out, ⟨by rw [hlen]; rw [hlen] at O8; exact O8, hlen⟩, Q6.out.1, Q6.out.2.1, by have := Q6.out; rw [List.length_append]; simp; omega, Nat.le_trans Q6.out.2.2.2 hsz, fun q hq => (List.mem_append.1 hq).elim (fun h1 => L6.out.fb q h1) (fun h1 => by rw [List.mem_singleton.1 h1]; exact FB5.out)⟩
                    clear AP0 O8 G8 ow7 O7 N7
                    go_wp2_with (at_builtin; refine wpList_app53 (by rfl) (.tmp 95) (.tmp 97) (by rfl) (by rfl) (by rfl) (by rfl) AP ?_)
                    go_roundw
                    case rel => exact ⟨i + 1, ya, yn, yc, v', k + 1, lf ++ [p], by omega, by go_num, rfl, NX⟩
                    case measure => simp [intOf]; omega
              · have ig : ¬ ((i : Int) < (n2 : Int)) := by omega
                cases th with
                | true =>
                  have MP : Hid (p ∈ lf) := TH.out.1.1 rfl
                  have AJ : Hid (aj = lf.idxOf p) := TH.out.2 rfl
                  clear TH
                  obtain ⟨F, HFF⟩ : ∃ F, Hid (frameL [1, s1, s2, s3, 3, 1, 1] [7] = F) := ⟨_, rfl⟩
                  have E3 : Hid (F3 p = F) := by rw [← Hpp.out, ← HFF.out]; rfl
                  have G3 : Hid (getS F = ([s1, s2, s3, 3, 1], [7], 0)) := by
                    have h := get3 P3.out
                    rw [E3.out, ← Hpp.out] at h
                    exact h
                  have G0 : Hid ((getS F).2.2 = 0) := by rw [G3.out]; rfl
                  have G1 : Hid ((getS F).1 = [s1, s2, s3, 3, 1]) := by rw [G3.out]; rfl
                  have OK3 : Hid (okN [1, (s1 : Int), s2, s3, ((3 : Nat) : Int), ((1 : Nat) : Int), 0] = true) := ok_t GT.out (by omega) (by omega) (by omega) (by omega)
                  have S7 : Hid (Sln (wr.alloc (.cells #[.int .u8 7] 5)) (some ⟨wr.heap.size, 0, none⟩) 1 [7]) := by
                    have hb7 : Blk (wr.alloc (.cells #[.int .u8 7] 5)) wr.heap.size [7] := heap_alloc_new wr _
                    exact hb7.sln (by decide) (by decide)
                  have Z7 : Hid ((some (⟨wr.heap.size, 0, none⟩ : Addr)) = none → 1 = 0) := fun h => by cases h
                  have K5 : Hid (k < 512) := by have h := L4.out.k61; show _ < _; omega
                  have L5 : ∀ o, Hid (LS w1 (wr.alloc o) M E g d m B xa xn xc v k i lf) := fun o => L4.out.below (alloc1 wr o) (Nat.le_refl _)
                  go_upto_region 26 with (first
                    | (go_at_call 15; refine (refPut_n s1 s2 s3 3 1 1 1 (some ⟨wr.heap.size, 0, none⟩) [7] S7 Z7 (by omega) OK3 (by omega)).mono ?_; rintro e w5 ⟨af, N, cf, rfl, H5⟩
                       rw [HFF.out] at H5
                       have L6 : Hid (LS w1 w5 M E g d m B xa xn xc v k i lf) := (L5 _).out.below H5.out.2.2 (Nat.le_refl _)
                       have F6 : Hid (Sf w1 w5 M E g d m ((3 : Nat) : Int) false v k) := L6.out.sf
                       have FB5 : Hid ((∀ x ∈ F3 p, x < 256) ∧ (F3 p).length ≤ 4000) := by rw [E3.out]; exact ⟨H5.out.1.lt, by have := H5.out.1.len; have := H5.out.2.1; omega⟩
                       have A5 : Hid (Sln w5 af N F) := H5.out.1.sln (by have := H5.out.2.1; omega)
                       have Z5 : Hid (af = none → cf = 0) := H5.out.1.cap0
                       have e5 : N ≤ cf := H5.out.1.cap
                       have P5 : Hid (∀ q, blkOf af = some q → q ≠ d ∧ q ≠ m) := fun q hq => by
                         have h1 := H5.out.1.ge q hq
                         have h2 := DM.out
                         have h3 := L4.out.bs
                         simp at h1
                         omega
                       have B5 : Hid (Below wr.heap.size wr w5) := (alloc1 wr _).trans (H5.out.2.2.mono (by simp))
                       have u0 : Hid (w5.cell? ⟨gi, 0, none⟩ = some (.int .i64 (s1 : Int))) := (B5.out.cell (p := ⟨gi, 0, none⟩) (cell_lt t0)).trans t0
                       have u1 : Hid (w5.cell? ⟨gi, 1, none⟩ = some (.int .i64 (s2 : Int))) := (B5.out.cell (p := ⟨gi, 1, none⟩) (cell_lt t1)).trans t1
                       have u2 : Hid (w5.cell? ⟨gi, 2, none⟩ = some (.int .i64 (s3 : Int))) := (B5.out.cell (p := ⟨gi, 2, none⟩) (cell_lt t2)).trans t2)
                    | (go_at_call 16; refine (put_v F6 K5 A5 Z5 e5 P5 G0 G1).mono ?_; rintro e w6 ⟨rfl, H6⟩))
                  obtain ⟨v', Hv'⟩ : ∃ v', Hid (upd (upd v (nmS 116 s1 s2 s3) none) (nmS 98 s1 s2 s3) (some ⟨spell F, spell F, true⟩) = v') := ⟨_, rfl⟩
                  rw [Hv'.out] at H6
                  have SV : Hid (SLv v' (if p ∈ lf then lf else lf ++ [p])) := by
                    have h := L4.out.slv.put P3.out
                    have e9 : fl3 p = ⟨spell F, spell F, true⟩ := by unfold fl3; rw [E3.out]
                    rw [e9] at h
                    rw [← Hv'.out, ← Hpp.out]
                    rw [← Hpp.out] at h
                    exact h
                  have O6 : Hid (Own3 w6 B xa xn xc lf) := L6.out.own.ch H6.out.2 ⟨DM.out.1, DM.out.2.1⟩
                  have gdm : Hid (gi ≠ d ∧ gi ≠ m) := by have h1 := GB.out; have h2 := DM.out; exact ⟨by omega, by omega⟩
                  have c0 : w6.cell? ⟨gi, 0, none⟩ = some (.int .i64 (s1 : Int)) := (H6.out.2.cell (cell_lt u0.out) gdm.out).trans u0.out
                  have c1' : w6.cell? ⟨gi, 1, none⟩ = some (.int .i64 (s2 : Int)) := (H6.out.2.cell (cell_lt u1.out) gdm.out).trans u1.out
                  have c2' : w6.cell? ⟨gi, 2, none⟩ = some (.int .i64 (s3 : Int)) := (H6.out.2.cell (cell_lt u2.out) gdm.out).trans u2.out
                  have S6 : Hid (Sf w1 w6 M E g d m ((3 : Nat) : Int) false v' (k + 1)) := H6.out.1
                  have Q6 : Hid (k + 1 ≤ 61 ∧ k + 1 ≤ i + 1 ∧ lf.length ≤ k ∧ B ≤ w6.heap.size) := by have h1 := L4.out.ki; have h2 := L4.out.lk; have h3 := L6.out.bs; have h4 := H6.out.2.size; exact ⟨by omega, by omega, h2, by omega⟩
                  clear H5 H6 S7 Z7 L5 t0 t1 t2
                  rw [if_pos MP.out] at SV
                  go_wp2
                  have NX : Hid (LS w1 w6 M E g d m B xa xn xc v' (k + 1) (i + 1) lf) := ⟨S6.out, SV.out, O6.out, Q6.out.1, Q6.out.2.1, by have := Q6.out; omega, Q6.out.2.2.2, L6.out.fb⟩
                  go_roundw
                  case rel => exact ⟨i + 1, xa, xn, xc, v', k + 1, lf, by omega, by go_num, rfl, NX⟩
                  case measure => simp [intOf]; omega
                | false =>
                  have MN : Hid (p ∉ lf) := fun h => by have := TH.out.1.2 h; cases this
                  clear TH
                  obtain ⟨F, HFF⟩ : ∃ F, Hid (frameL [1, s1, s2, s3, 3, 1, 1] [7] = F) := ⟨_, rfl⟩
                  have E3 : Hid (F3 p = F) := by rw [← Hpp.out, ← HFF.out]; rfl
                  have G3 : Hid (getS F = ([s1, s2, s3, 3, 1], [7], 0)) := by
                    have h := get3 P3.out
                    rw [E3.out, ← Hpp.out] at h
                    exact h
                  have G0 : Hid ((getS F).2.2 = 0) := by rw [G3.out]; rfl
                  have G1 : Hid ((getS F).1 = [s1, s2, s3, 3, 1]) := by rw [G3.out]; rfl
                  have OK3 : Hid (okN [1, (s1 : Int), s2, s3, ((3 : Nat) : Int), ((1 : Nat) : Int), 0] = true) := ok_t GT.out (by omega) (by omega) (by omega) (by omega)
                  have S7 : Hid (Sln (wr.alloc (.cells #[.int .u8 7] 5)) (some ⟨wr.heap.size, 0, none⟩) 1 [7]) := by
                    have hb7 : Blk (wr.alloc (.cells #[.int .u8 7] 5)) wr.heap.size [7] := heap_alloc_new wr _
                    exact hb7.sln (by decide) (by decide)
                  have Z7 : Hid ((some (⟨wr.heap.size, 0, none⟩ : Addr)) = none → 1 = 0) := fun h => by cases h
                  have K5 : Hid (k < 512) := by have h := L4.out.k61; show _ < _; omega
                  have L5 : ∀ o, Hid (LS w1 (wr.alloc o) M E g d m B xa xn xc v k i lf) := fun o => L4.out.below (alloc1 wr o) (Nat.le_refl _)
                  go_upto_region 26 with (first
                    | (go_at_call 15; refine (refPut_n s1 s2 s3 3 1 1 1 (some ⟨wr.heap.size, 0, none⟩) [7] S7 Z7 (by omega) OK3 (by omega)).mono ?_; rintro e w5 ⟨af, N, cf, rfl, H5⟩
                       rw [HFF.out] at H5
                       have L6 : Hid (LS w1 w5 M E g d m B xa xn xc v k i lf) := (L5 _).out.below H5.out.2.2 (Nat.le_refl _)
                       have F6 : Hid (Sf w1 w5 M E g d m ((3 : Nat) : Int) false v k) := L6.out.sf
                       have FB5 : Hid ((∀ x ∈ F3 p, x < 256) ∧ (F3 p).length ≤ 4000) := by rw [E3.out]; exact ⟨H5.out.1.lt, by have := H5.out.1.len; have := H5.out.2.1; omega⟩
                       have A5 : Hid (Sln w5 af N F) := H5.out.1.sln (by have := H5.out.2.1; omega)
                       have Z5 : Hid (af = none → cf = 0) := H5.out.1.cap0
                       have e5 : N ≤ cf := H5.out.1.cap
                       have P5 : Hid (∀ q, blkOf af = some q → q ≠ d ∧ q ≠ m) := fun q hq => by
                         have h1 := H5.out.1.ge q hq
                         have h2 := DM.out
                         have h3 := L4.out.bs
                         simp at h1
                         omega
                       have B5 : Hid (Below wr.heap.size wr w5) := (alloc1 wr _).trans (H5.out.2.2.mono (by simp))
                       have u0 : Hid (w5.cell? ⟨gi, 0, none⟩ = some (.int .i64 (s1 : Int))) := (B5.out.cell (p := ⟨gi, 0, none⟩) (cell_lt t0)).trans t0
                       have u1 : Hid (w5.cell? ⟨gi, 1, none⟩ = some (.int .i64 (s2 : Int))) := (B5.out.cell (p := ⟨gi, 1, none⟩) (cell_lt t1)).trans t1
                       have u2 : Hid (w5.cell? ⟨gi, 2, none⟩ = some (.int .i64 (s3 : Int))) := (B5.out.cell (p := ⟨gi, 2, none⟩) (cell_lt t2)).trans t2)
                    | (go_at_call 16; refine (put_v F6 K5 A5 Z5 e5 P5 G0 G1).mono ?_; rintro e w6 ⟨rfl, H6⟩))
                  obtain ⟨v', Hv'⟩ : ∃ v', Hid (upd (upd v (nmS 116 s1 s2 s3) none) (nmS 98 s1 s2 s3) (some ⟨spell F, spell F, true⟩) = v') := ⟨_, rfl⟩
                  rw [Hv'.out] at H6
                  have SV : Hid (SLv v' (if p ∈ lf then lf else lf ++ [p])) := by
                    have h := L4.out.slv.put P3.out
                    have e9 : fl3 p = ⟨spell F, spell F, true⟩ := by unfold fl3; rw [E3.out]
                    rw [e9] at h
                    rw [← Hv'.out, ← Hpp.out]
                    rw [← Hpp.out] at h
                    exact h
                  have O6 : Hid (Own3 w6 B xa xn xc lf) := L6.out.own.ch H6.out.2 ⟨DM.out.1, DM.out.2.1⟩
                  have gdm : Hid (gi ≠ d ∧ gi ≠ m) := by have h1 := GB.out; have h2 := DM.out; exact ⟨by omega, by omega⟩
                  have c0 : w6.cell? ⟨gi, 0, none⟩ = some (.int .i64 (s1 : Int)) := (H6.out.2.cell (cell_lt u0.out) gdm.out).trans u0.out
                  have c1' : w6.cell? ⟨gi, 1, none⟩ = some (.int .i64 (s2 : Int)) := (H6.out.2.cell (cell_lt u1.out) gdm.out).trans u1.out
                  have c2' : w6.cell? ⟨gi, 2, none⟩ = some (.int .i64 (s3 : Int)) := (H6.out.2.cell (cell_lt u2.out) gdm.out).trans u2.out
                  have S6 : Hid (Sf w1 w6 M E g d m ((3 : Nat) : Int) false v' (k + 1)) := H6.out.1
                  have Q6 : Hid (k + 1 ≤ 61 ∧ k + 1 ≤ i + 1 ∧ lf.length ≤ k ∧ B ≤ w6.heap.size) := by have h1 := L4.out.ki; have h2 := L4.out.lk; have h3 := L6.out.bs; have h4 := H6.out.2.size; exact ⟨by omega, by omega, h2, by omega⟩
                  clear H5 H6 S7 Z7 L5 t0 t1 t2
                  rw [if_neg MN.out] at SV
                  obtain ⟨W7, HW7⟩ : ∃ W7, Hid (w6.alloc (.cells #[.int .i64 (s1 : Int), .int .i64 (s2 : Int), .int .i64 (s3 : Int)] 32) = W7) := ⟨_, rfl⟩
                  have b7 : Hid (Below w6.heap.size w6 W7) := by rw [← HW7.out]; exact alloc1 w6 _
                  have N7 : W7.heap[w6.heap.size]? = some (.cells (encI p).toArray 32 (0, 0)) := by rw [← HW7.out, ← Hpp.out]; exact heap_alloc_new w6 _
                  have O7 : Own3 W7 B xa xn xc lf := O6.out.below b7.out
                  have ow7 : W7.ownsRow B 32 3 (.slice xa xn xc) lf.length (idcs lf) := by rw [← O7.len]; exact O7.own
                  obtain ⟨y8, W8, AP0, O8, G8⟩ := app_id ow7 N7 (by have := Q6.out; omega) (by have := Q6.out; have := b7.out.size; omega)
                  obtain ⟨ya, yn, yc, rfl⟩ := own_slice O8
                  have AP : Hid ((Builtin.append_ #[53, 53] 53 #[.slice xa xn xc, .slice (some ⟨w6.heap.size, 0, none⟩) 1 1]).run Tryz.prog (w6.alloc (.cells #[.int .i64 (s1 : Int), .int .i64 (s2 : Int), .int .i64 (s3 : Int)] 32)) = .ok (.slice ya yn yc) W8) := by rw [HW7.out]; exact AP0
                  have NX : Hid (LS w1 W8 M E g d m B ya yn yc v' (k + 1) (i + 1) (lf ++ [p])) := by
                    have hbel : Below B W7 W8 := (Below.refl B W7).grown G8 (by have := Q6.out; have := b7.out.size; omega) (fun q e => (ow7.lt q e).1)
                    have hbig : ∀ q, q < B → W8.heap[q]? = w6.heap[q]? := fun q hq => (hbel.block q hq).trans (b7.out.block q (by have := Q6.out; omega))
                    have hsz : w6.heap.size ≤ W8.heap.size := Nat.le_trans b7.out.size G8.size
                    have hB68 : Below B w6 W8 := ⟨by rw [G8.os, b7.out.os], by rw [G8.tape, b7.out.tape], by rw [G8.output, b7.out.output], hsz, hbig⟩
                    have hdm := DM.out
                    have sf8 : Sf w1 W8 M E g d m ((3 : Nat) : Int) false v' (k + 1) := by
                      have hs := S6.out
                      have gB : g < B := by have h1 := SG.out; exact h1
                      refine ⟨hs.env, hs.bel.trans (hB68.mono hdm.2.2.2.2), ⟨?_, ?_⟩, ?_, hs.ne, hs.ge⟩
                      · exact (hB68.cell (p := ⟨g, 0, none⟩) gB).trans hs.shl.c0
                      · exact (hB68.cell (p := ⟨g, 1, none⟩) gB).trans hs.shl.c1
                      · obtain ⟨D, lo, z1, z2, z3⟩ := hs.dv
                        exact ⟨D, lo, z1.keep (hB68.block d hdm.1) (hB68.block m hdm.2.1), z2, z3⟩
                    have hlen : yn = (lf ++ [p]).length := own_len O8
                    refine ⟨sf8, SV.out, ⟨by rw [hlen]; rw [hlen] at O8; exact O8, hlen⟩, Q6.out.1, Q6.out.2.1, by have := Q6.out; rw [List.length_append]; simp; omega, Nat.le_trans Q6.out.2.2.2 hsz, fun q hq => (List.mem_append.1 hq).elim (fun h1 => L6.out.fb q h1) (fun h1 => by rw [List.mem_singleton.1 h1]; exact FB5.out)⟩
                  clear AP0 O8 G8 ow7 O7 N7
                  go_wp2_with (at_builtin; refine wpList_app53 (by rfl) (.tmp 95) (.tmp 97) (by rfl) (by rfl) (by rfl) (by rfl) AP ?_)
                  go_roundw
                  case rel => exact ⟨i + 1, ya, yn, yc, v', k + 1, lf ++ [p], by omega, by go_num, rfl, NX⟩
                  case measure => simp [intOf]; omega
    · have SF : Hid (Sf w1 wr M E g d m ((3 : Nat) : Int) false v k) := HL.out.sf
      have ML : Hid (Mxl wr) := U1.out.2.2.below SF.out.bel
      have AB : Hid (AllB v) := HL.out.slv.all
      have xl : Hid (xn = lf.length) := HL.out.own.len
      have xb : xn ≤ 61 := by have h1 := xl.out; have h2 := HL.out.lk; have h3 := HL.out.k61; omega
      have M1 : Hid (Mxl w1) := U1.out.2.2
      go_upto_region 32 with (go_at_call 22; refine (list_v SF ML AB).mono ?_; rintro e w4 ⟨la, ln, lc, l, rfl, H4⟩; obtain rfl : xn = ln := by rw [xl.out, H4.out.1.len]; exact (HL.out.slv.same H4.out.2.1).1.symm)
      have L4 : Hid (LS w1 w4 M E g d m B xa xn xc v k i lf) := HL.out.below H4.out.2.2.2 (Nat.le_refl _)
      have IL : Hid (Ids w4 la xn l ∧ IdS v l) := ⟨H4.out.1, H4.out.2.1⟩
      have SM : Hid (∀ q, q ∈ l ↔ q ∈ lf) := (HL.out.slv.same H4.out.2.1).2
      have BE : Hid (Below w.heap.size w w4) := H1.out.trans (L4.out.sf.bel.mono H1.out.size)
      clear HL SF ML H4
      go_wp2
      go_loopw [109] (fun tk w5 => ∃ t : Nat, t ≤ xn ∧ tk = .int .i64 (t : Int) ∧ Hid (Below w4.heap.size w4 w5)) (fun tk _ => xn - (intOf tk).toNat)
      case atStart => exact ⟨0, by omega, rfl, Below.refl _ _⟩
      case round =>
        obtain ⟨t, ht, rfl, HB5⟩ := hrel
        have L5 : Hid (LS w1 wr M E g d m B xa xn xc v k i lf) := L4.out.below HB5.out (Nat.le_refl _)
        by_cases htl : t < xn
        · have I5 : Hid (Ids wr la xn l) := IL.out.1.below HB5.out
          obtain ⟨gL, rfl, r0, r1, r2⟩ := I5.out.at_ htl
          have htf : t < l.length := by have := IL.out.1.len; omega
          obtain ⟨p, Hp⟩ : ∃ p, Hid (l[t] = p) := ⟨l[t], (rfl : l[t] = l[t])⟩
          have eq0 : l.getD t (0, 0, 0) = p := by rw [← Hp.out]; simp [List.getD, htf]
          rw [eq0] at r0 r1 r2
          have pm : p ∈ l := by rw [← Hp.out]; exact List.getElem_mem htf
          have P3 : Hid (gd3 p) := ((IL.out.2.mem p).1 pm).1
          have PL : Hid (p ∈ lf) := (SM.out p).1 pm
          clear pm eq0
          obtain ⟨pa, pb, pc⟩ := p
          have gb : 0 ≤ pa ∧ pa < 16 ∧ 0 ≤ pb ∧ pb ≤ 1099511627776 ∧ 0 ≤ pc ∧ pc ≤ 1099511627776 := gdI_b P3.out
          simp only at r0 r1 r2
          obtain ⟨s1, rfl⟩ := Int.eq_ofNat_of_zero_le gb.1
          obtain ⟨s2, rfl⟩ := Int.eq_ofNat_of_zero_le gb.2.2.1
          obtain ⟨s3, rfl⟩ := Int.eq_ofNat_of_zero_le gb.2.2.2.2.1
          clear gb
          have GI : Hid (gdI s1 s2 s3) := P3.out
          obtain ⟨p, Hpp⟩ : ∃ p : I3, Hid (((s1 : Int), (s2 : Int), (s3 : Int)) = p) := ⟨_, rfl⟩
          rw [Hpp.out] at PL Hp P3
          obtain ⟨gi, Hgi⟩ : ∃ gi, Hid (wr.heap.size = gi) := ⟨_, rfl⟩
          obtain ⟨w5, HW5⟩ : ∃ w5, Hid (wr.alloc (.cells #[.int .i64 (s1 : Int), .int .i64 (s2 : Int), .int .i64 (s3 : Int)] 32) = w5) := ⟨_, rfl⟩
          have B5 : Hid (Below w4.heap.size w4 w5) := by rw [← HW5.out]; exact HB5.out.trans ((alloc1 wr _).mono HB5.out.size)
          have L6 : Hid (LS w1 w5 M E g d m B xa xn xc v k i lf) := L4.out.below B5.out (Nat.le_refl _)
          have z0 : Hid (w5.cell? ⟨gi, 0, none⟩ = some (.int .i64 (s1 : Int))) := by rw [← HW5.out, ← Hgi.out]; show _ = _; simp
          have z1 : Hid (w5.cell? ⟨gi, 1, none⟩ = some (.int .i64 (s2 : Int))) := by rw [← HW5.out, ← Hgi.out]; show _ = _; simp
          have z2 : Hid (w5.cell? ⟨gi, 2, none⟩ = some (.int .i64 (s3 : Int))) := by rw [← HW5.out, ← Hgi.out]; show _ = _; simp
          have I6 : Hid (Ids w5 (some ⟨gL, 0, none⟩) xn l) := IL.out.1.below B5.out
          have F0 : Hid (Fn2 lf p 0 (.bool false)) := ⟨false, rfl, by simp⟩
          go_upto_region 36 with (fail)
          rw [HW5.out, Hgi.out]
          clear I5 r0 r1 r2 HW5 Hgi
          go_wp2
          go_loopw [116, 17] (fun tj tt w6 => ∃ j : Nat, j ≤ xn ∧ tj = .int .i64 (j : Int) ∧ Hid (Fn2 lf p j tt) ∧ Hid (Below w5.heap.size w5 w6)) (fun tj _ _ => xn - (intOf tj).toNat)
          case atStart => exact ⟨0, by omega, rfl, F0, Below.refl _ _⟩
          case round =>
            obtain ⟨j, hj, rfl, HF, HB6⟩ := hrel
            clear F0
            have L7 : Hid (LS w1 wr M E g d m B xa xn xc v k i lf) := L6.out.below HB6.out (Nat.le_refl _)
            have t0 : wr.cell? ⟨gi, 0, none⟩ = some (.int .i64 (s1 : Int)) := (HB6.out.cell (p := ⟨gi, 0, none⟩) (cell_lt z0.out)).trans z0.out
            have t1 : wr.cell? ⟨gi, 1, none⟩ = some (.int .i64 (s2 : Int)) := (HB6.out.cell (p := ⟨gi, 1, none⟩) (cell_lt z1.out)).trans z1.out
            have t2 : wr.cell? ⟨gi, 2, none⟩ = some (.int .i64 (s3 : Int)) := (HB6.out.cell (p := ⟨gi, 2, none⟩) (cell_lt z2.out)).trans z2.out
            obtain ⟨th, rfl, f2⟩ := HF.out
            clear HF
            by_cases hjl : j < xn
            · obtain ⟨gl, rfl, r0, r1, r2⟩ := L7.out.own.ids.at_ hjl
              have hjf : j < lf.length := by have := xl.out; omega
              obtain ⟨q, Hq⟩ : ∃ q, Hid (lf[j] = q) := ⟨lf[j], (rfl : lf[j] = lf[j])⟩
              have eq0 : lf.getD j (0, 0, 0) = q := by rw [← Hq.out]; simp [List.getD, hjf]
              rw [eq0] at r0 r1 r2
              have G9 : ∀ o, (wr.alloc o).cell? ⟨gi, 0, none⟩ = some (.int .i64 (s1 : Int)) := fun o => ((alloc1 wr o).cell (p := ⟨gi, 0, none⟩) (cell_lt t0)).trans t0
              have G10 : ∀ o, (wr.alloc o).cell? ⟨gi, 1, none⟩ = some (.int .i64 (s2 : Int)) := fun o => ((alloc1 wr o).cell (p := ⟨gi, 1, none⟩) (cell_lt t1)).trans t1
              have G11 : ∀ o, (wr.alloc o).cell? ⟨gi, 2, none⟩ = some (.int .i64 (s3 : Int)) := fun o => ((alloc1 wr o).cell (p := ⟨gi, 2, none⟩) (cell_lt t2)).trans t2
              have BN : ∀ o, Hid (Below w5.heap.size w5 (wr.alloc o)) := fun o => HB6.out.trans ((alloc1 wr o).mono HB6.out.size)
              cases th with
              | true =>
                have FN : Hid (Fn2 lf p (j + 1) (.bool true)) := fn2_stay (f2.1 rfl)
                clear f2 eq0 Hq
                obtain ⟨qa, qb, qc⟩ := q
                simp only at r0 r1 r2
                go_wp2
                go_roundw
                case rel => exact ⟨j + 1, by omega, by go_num, FN, BN _⟩
                case measure => simp [intOf]; omega
              | false =>
                have MN : Hid (p ∉ lf.take j) := fun h => by have := f2.2 h; cases this
                clear f2
                by_cases hqp : q = p
                · have FY : Hid (Fn2 lf p (j + 1) (.bool true)) := fn2_yes hjf (Hq.out.trans hqp)
                  have EQ := eq_id (s1 : Int) (s2 : Int) (s3 : Int)
                  rw [hqp, ← Hpp.out] at r0 r1 r2
                  simp only at r0 r1 r2
                  clear eq0 hqp Hq
                  go_wp2
                  go_roundw
                  case rel => exact ⟨j + 1, by omega, by go_num, FY, BN _⟩
                  case measure => simp [intOf]; omega
                · have FN : Hid (Fn2 lf p (j + 1) (.bool false)) := fn2_no MN.out hjf (by rw [Hq.out]; exact hqp)
                  obtain ⟨qa, qb, qc⟩ := q
                  have EQ : ∀ w, (Op.equalIn 10000 32 (.agg #[.int .i64 qa, .int .i64 qb, .int .i64 qc]) (.agg #[.int .i64 (s1 : Int), .int .i64 (s2 : Int), .int .i64 (s3 : Int)])).run Tryz.prog w = .ok false w := fun w => by
                    rw [eq_ids]
                    cases h : (qa == (s1 : Int) && qb == (s2 : Int) && qc == (s3 : Int)) with
                    | false => rfl
                    | true =>
                      simp at h
                      exact absurd (by rw [← Hpp.out, h.1.1, h.1.2, h.2]) hqp
                  simp only at r0 r1 r2
                  clear eq0 hqp
                  go_wp2
                  go_roundw
                  case rel => exact ⟨j + 1, by omega, by go_num, FN, BN _⟩
                  case measure => simp [intOf]; omega
            · have ej : lf.take j = lf := List.take_of_length_le (by have := xl.out; omega)
              obtain rfl : th = true := f2.2 (by rw [ej]; exact PL.out)
              clear f2 ej
              have HV : Hid (v (nmS 98 s1 s2 s3) = some (fl3 p)) := by
                have h := L4.out.slv.val p P3.out
                rw [if_pos PL.out, ← Hpp.out] at h
                rw [← Hpp.out]
                exact h
              have fb := L4.out.fb p PL.out
              have f3 := fl3_ok P3.out fb.1 fb.2
              have hb3 : (fl3 p).b.size ≤ 140737488352256 := f3.1
              have h03 : Hid ((getS (bytesOf (fl3 p).b)).2.2 = 0) := f3.2.1
              have hs3 : Hid ((getS (bytesOf (fl3 p).b)).1 = [s1, s2, s3, 3, 1]) := by
                have h := f3.2.2
                rw [← Hpp.out] at h ⊢
                exact h
              clear fb f3
              obtain ⟨W7, HW7⟩ : ∃ W7, Hid (wr.drew = W7) := ⟨_, rfl⟩
              have B7 : Hid (Below w4.heap.size w4 W7) := by rw [← HW7.out]; exact B5.out.trans ((HB6.out.drew).mono B5.out.size)
              have F7 : Hid (Sf w1 W7 M E g d m ((3 : Nat) : Int) false v k) := (L4.out.below B7.out (Nat.le_refl _)).sf
              have I7 : Hid (Ids wr (some ⟨gL, 0, none⟩) xn l) := I6.out.below HB6.out
              by_cases ht0 : t = 0
              · have it0 : ¬ ((0 : Int) < (t : Int)) := by omega
                obtain ⟨gL', eg, r0, r1, r2⟩ := I7.out.at_ htl
                cases eg
                obtain ⟨u, Hu⟩ : ∃ u, Hid (t = u) := ⟨_, rfl⟩
                rw [Hu.out] at r0 r1 r2
                obtain ⟨x, Hx⟩ : ∃ x, Hid ((l.getD u (0, 0, 0)).1 = x) := ⟨_, rfl⟩
                obtain ⟨y, Hy⟩ : ∃ y, Hid ((l.getD u (0, 0, 0)).2.1 = y) := ⟨_, rfl⟩
                obtain ⟨z, Hz⟩ : ∃ z, Hid ((l.getD u (0, 0, 0)).2.2 = z) := ⟨_, rfl⟩
                rw [Hx.out] at r0
                rw [Hy.out] at r1
                rw [Hz.out] at r2
                have K0 : Ixq wr.drew gi (s1 : Int) (s2 : Int) (s3 : Int) gL u x y z := (⟨t0, t1, t2, r0, r1, r2⟩ : Ixq wr gi (s1 : Int) (s2 : Int) (s3 : Int) gL u x y z).below (Below.refl _ _).drew
                clear r0 r1 r2 t0 t1 t2 ht0
                go_upto_region 41 with (fail)
                refine wp_region_till (S := fun L W => Ixq W gi (s1 : Int) (s2 : Int) (s3 : Int) gL u x y z) (by kernel_rfl) K0 (fun hS => ?_)
                rw [HW7.out]
                rw [HW7.out] at hS
                clear K0
                refine till_take (i := 0) (v := .bool true) rfl (by kernel_rfl) (by kernel_rfl) (by kernel_rfl) (fun _ _ _ h => h) (fun L w => Iff.rfl) (Or.inl ⟨by rfl, fun w => by go_simp⟩) hS (fun hSb => ?_)
                simp only [List.getElem_toArray, List.getElem_cons_zero, List.getElem_cons_succ, Act.put, List.setIfInBounds_toArray, List.set_cons_zero, List.set_cons_succ]
                clear hS
                refine till_take (i := 1) (v := .bool false) rfl (by kernel_rfl) (by kernel_rfl) (by kernel_rfl) (fun _ _ _ h => h) (fun L w => Iff.rfl) (Or.inl ⟨by rfl, fun w => by go_simp⟩) hSb (fun hS => ?_)
                simp only [List.getElem_toArray, List.getElem_cons_zero, List.getElem_cons_succ, Act.put, List.setIfInBounds_toArray, List.set_cons_zero, List.set_cons_succ]
                clear hSb
                refine till_take (i := 2) (v := .bool false) rfl (by kernel_rfl) (by kernel_rfl) (by kernel_rfl) (fun _ _ _ h => h) (fun L w => Iff.rfl) (Or.inl ⟨by rfl, fun w => by go_simp⟩) hS (fun hSb => ?_)
                simp only [List.getElem_toArray, List.getElem_cons_zero, List.getElem_cons_succ, Act.put, List.setIfInBounds_toArray, List.set_cons_zero, List.set_cons_succ]
                clear hS
                refine till_take (i := 3) (v := .int .i64 (t : Int)) rfl (by kernel_rfl) (by kernel_rfl) (by kernel_rfl) (fun _ _ _ h => h) (fun L w => Iff.rfl) (Or.inl ⟨by rfl, fun w => by go_simp⟩) hSb (fun hS => ?_)
                simp only [List.getElem_toArray, List.getElem_cons_zero, List.getElem_cons_succ, Act.put, List.setIfInBounds_toArray, List.set_cons_zero, List.set_cons_succ]
                clear hSb
                refine till_take (i := 4) (v := .bool false) rfl (by kernel_rfl) (by kernel_rfl) (by kernel_rfl) (fun _ _ _ h => h) (fun L w => Iff.rfl) (Or.inl ⟨by rfl, fun w => by go_simp; omega⟩) hS (fun hSb => ?_)
                simp only [List.getElem_toArray, List.getElem_cons_zero, List.getElem_cons_succ, Act.put, List.setIfInBounds_toArray, List.set_cons_zero, List.set_cons_succ]
                clear hS
                refine till_take (i := 5) (v := .bool false) rfl (by kernel_rfl) (by kernel_rfl) (by kernel_rfl) (fun _ _ _ h => h) (fun L w => Iff.rfl) (Or.inl ⟨by rfl, fun w => by go_simp⟩) hSb (fun hS => ?_)
                simp only [List.getElem_toArray, List.getElem_cons_zero, List.getElem_cons_succ, Act.put, List.setIfInBounds_toArray, List.set_cons_zero, List.set_cons_succ]
                clear hSb
                refine till_take (i := 6) (v := undef) rfl (by kernel_rfl) (by kernel_rfl) (by kernel_rfl) (fun _ _ _ h => h) (fun L w => Iff.rfl) (Or.inr ⟨by rfl, rfl⟩) hS (fun hSb => ?_)
                simp only [List.getElem_toArray, List.getElem_cons_zero, List.getElem_cons_succ, Act.put, List.setIfInBounds_toArray, List.set_cons_zero, List.set_cons_succ]
                clear hS
                refine till_take (i := 7) (v := undef) rfl (by kernel_rfl) (by kernel_rfl) (by kernel_rfl) (fun _ _ _ h => h) (fun L w => Iff.rfl) (Or.inr ⟨by rfl, rfl⟩) hSb (fun hS => ?_)
                simp only [List.getElem_toArray, List.getElem_cons_zero, List.getElem_cons_succ, Act.put, List.setIfInBounds_toArray, List.set_cons_zero, List.set_cons_succ]
                clear hSb
                refine till_take (i := 8) (v := undef) rfl (by kernel_rfl) (by kernel_rfl) (by kernel_rfl) (fun _ _ _ h => h) (fun L w => Iff.rfl) (Or.inr ⟨by rfl, rfl⟩) hS (fun hSb => ?_)
                simp only [List.getElem_toArray, List.getElem_cons_zero, List.getElem_cons_succ, Act.put, List.setIfInBounds_toArray, List.set_cons_zero, List.set_cons_succ]
                clear hS
                refine till_take (i := 9) (v := undef) rfl (by kernel_rfl) (by kernel_rfl) (by kernel_rfl) (fun _ _ _ h => h) (fun L w => Iff.rfl) (Or.inr ⟨by rfl, rfl⟩) hSb (fun hS => ?_)
                simp only [List.getElem_toArray, List.getElem_cons_zero, List.getElem_cons_succ, Act.put, List.setIfInBounds_toArray, List.set_cons_zero, List.set_cons_succ]
                clear hSb
                refine till_take (i := 10) (v := undef) rfl (by kernel_rfl) (by kernel_rfl) (by kernel_rfl) (fun _ _ _ h => h) (fun L w => Iff.rfl) (Or.inr ⟨by rfl, rfl⟩) hS (fun hSb => ?_)
                simp only [List.getElem_toArray, List.getElem_cons_zero, List.getElem_cons_succ, Act.put, List.setIfInBounds_toArray, List.set_cons_zero, List.set_cons_succ]
                clear hS
                refine till_take (i := 11) (v := undef) rfl (by kernel_rfl) (by kernel_rfl) (by kernel_rfl) (fun _ _ _ h => h) (fun L w => Iff.rfl) (Or.inr ⟨by rfl, rfl⟩) hSb (fun hS => ?_)
                simp only [List.getElem_toArray, List.getElem_cons_zero, List.getElem_cons_succ, Act.put, List.setIfInBounds_toArray, List.set_cons_zero, List.set_cons_succ]
                clear hSb
                refine till_one (i := 12) (by kernel_rfl) rfl (fun K hK => ?_)
                simp only [List.getElem_toArray, List.getElem_cons_zero, List.getElem_cons_succ]
                rw [if_neg (by intro h; have h2 : false = true := h; cases h2)]
                refine hK.out _ _ hS (fun hSb => ?_)
                clear hK K
                try simp only [List.getElem_toArray, List.getElem_cons_zero, List.getElem_cons_succ, Act.put, List.setIfInBounds_toArray, List.set_cons_zero, List.set_cons_succ]
                clear hS
                refine till_take (i := 13) (v := undef) rfl (by kernel_rfl) (by kernel_rfl) (by kernel_rfl) (fun _ _ _ h => h) (fun L w => Iff.rfl) (Or.inr ⟨by rfl, rfl⟩) hSb (fun hS => ?_)
                simp only [List.getElem_toArray, List.getElem_cons_zero, List.getElem_cons_succ, Act.put, List.setIfInBounds_toArray, List.set_cons_zero, List.set_cons_succ]
                clear hSb
                refine till_take (i := 14) (v := .bool false) rfl (by kernel_rfl) (by kernel_rfl) (by kernel_rfl) (fun _ _ _ h => h) (fun L w => Iff.rfl) (Or.inl ⟨by rfl, fun w => by go_simp⟩) hS (fun hSb => ?_)
                simp only [List.getElem_toArray, List.getElem_cons_zero, List.getElem_cons_succ, Act.put, List.setIfInBounds_toArray, List.set_cons_zero, List.set_cons_succ]
                clear hS
                refine till_take (i := 15) (v := .bool false) rfl (by kernel_rfl) (by kernel_rfl) (by kernel_rfl) (fun _ _ _ h => h) (fun L w => Iff.rfl) (Or.inl ⟨by rfl, fun w => by go_simp⟩) hSb (fun hS => ?_)
                simp only [List.getElem_toArray, List.getElem_cons_zero, List.getElem_cons_succ, Act.put, List.setIfInBounds_toArray, List.set_cons_zero, List.set_cons_succ]
                clear hSb
                refine till_take (i := 16) (v := .bool false) rfl (by kernel_rfl) (by kernel_rfl) (by kernel_rfl) (fun _ _ _ h => h) (fun L w => Iff.rfl) (Or.inl ⟨by rfl, fun w => by go_simp⟩) hS (fun hSb => ?_)
                simp only [List.getElem_toArray, List.getElem_cons_zero, List.getElem_cons_succ, Act.put, List.setIfInBounds_toArray, List.set_cons_zero, List.set_cons_succ]
                clear hS
                refine till_take (i := 17) (v := .pointer (some ⟨g, 0, none⟩)) rfl (by kernel_rfl) (by kernel_rfl) (by kernel_rfl) (fun _ _ _ h => h) (fun L w => Iff.rfl) (Or.inl ⟨by rfl, fun w => by go_simp⟩) hSb (fun hS => ?_)
                simp only [List.getElem_toArray, List.getElem_cons_zero, List.getElem_cons_succ, Act.put, List.setIfInBounds_toArray, List.set_cons_zero, List.set_cons_succ]
                clear hSb
                refine till_read (i := 18) (c := 19) (v := .agg #[.int .i64 (s1 : Int), .int .i64 (s2 : Int), .int .i64 (s3 : Int)]) (T := fun W => Ixq W gi (s1 : Int) (s2 : Int) (s3 : Int) gL u x y z) rfl rfl (by kernel_rfl) (by kernel_rfl) (by kernel_rfl) (by kernel_rfl) (by kernel_rfl) (fun _ _ _ h => h) (fun L w => Iff.rfl) (fun L w h1 h2 => h2) (Or.inl ⟨by rfl, fun w h => by have qx0 := h.x0; have qx1 := h.x1; have qx2 := h.x2; go_simp⟩) hS (fun hSb => ?_)
                simp only [List.getElem_toArray, List.getElem_cons_zero, List.getElem_cons_succ, Act.put, List.setIfInBounds_toArray, List.set_cons_zero, List.set_cons_succ]
                clear hS
                refine till_one (i := 19) (by kernel_rfl) rfl (fun K hK => ?_)
                simp only [List.getElem_toArray, List.getElem_cons_zero, List.getElem_cons_succ]
                rw [if_pos (by rfl)]
                go_simp
                go_wp2_with (go_at_call 25; refine (has_v F7 GI HV hb3 h03 hs3).mono ?_; rintro e w8 ⟨rfl, H8⟩)
                refine hK.out _ _ (hSb.below H8.out) (fun hS => ?_)
                clear hK K
                try simp only [List.getElem_toArray, List.getElem_cons_zero, List.getElem_cons_succ, Act.put, List.setIfInBounds_toArray, List.set_cons_zero, List.set_cons_succ]
                clear hSb
                refine till_take (i := 20) (v := .bool false) rfl (by kernel_rfl) (by kernel_rfl) (by kernel_rfl) (fun _ _ _ h => h) (fun L w => Iff.rfl) (Or.inl ⟨by rfl, fun w => by go_simp⟩) hS (fun hSb => ?_)
                simp only [List.getElem_toArray, List.getElem_cons_zero, List.getElem_cons_succ, Act.put, List.setIfInBounds_toArray, List.set_cons_zero, List.set_cons_succ]
                clear hS
                refine till_take (i := 21) (v := .bool false) rfl (by kernel_rfl) (by kernel_rfl) (by kernel_rfl) (fun _ _ _ h => h) (fun L w => Iff.rfl) (Or.inl ⟨by rfl, fun w => by go_simp⟩) hSb (fun hS => ?_)
                simp only [List.getElem_toArray, List.getElem_cons_zero, List.getElem_cons_succ, Act.put, List.setIfInBounds_toArray, List.set_cons_zero, List.set_cons_succ]
                clear hSb
                refine till_done (by kernel_rfl) ?_ _
                clear hS
                have NX : Hid (Below w4.heap.size w4 w8) := B7.out.trans (H8.out.mono B7.out.size)
                go_wp2
                go_roundw
                case rel => exact ⟨t + 1, by omega, by go_num, NX⟩
                case measure => simp [intOf]; omega
              · obtain ⟨u, Hu⟩ : ∃ u, Hid (t = u + 1) := ⟨t - 1, by show _ = _; omega⟩
                have it0 : (0 : Int) < (t : Int) := by omega
                have iu : u < xn := by have := Hu.out; omega
                have tu : (t : Int) - 1 = (u : Int) := by have := Hu.out; omega
                obtain ⟨gL', eg, r0, r1, r2⟩ := I7.out.at_ iu
                cases eg
                have huf : u < l.length := by have := IL.out.1.len; omega
                have LT0 : ltI l[u] l[t] = true := List.pairwise_iff_getElem.1 IL.out.2.up u t huf htf (by have := Hu.out; omega)
                have eu : l.getD u (0, 0, 0) = l[u] := by simp [List.getD, huf]
                rw [← eu, Hp.out, ← Hpp.out] at LT0
                clear eu
                obtain ⟨x, Hx⟩ : ∃ x, Hid ((l.getD u (0, 0, 0)).1 = x) := ⟨_, rfl⟩
                obtain ⟨y, Hy⟩ : ∃ y, Hid ((l.getD u (0, 0, 0)).2.1 = y) := ⟨_, rfl⟩
                obtain ⟨z, Hz⟩ : ∃ z, Hid ((l.getD u (0, 0, 0)).2.2 = z) := ⟨_, rfl⟩
                have LT : Hid (lessI x y z (s1 : Int) (s2 : Int) (s3 : Int) = true) := by
                  rw [← Hx.out, ← Hy.out, ← Hz.out]
                  exact LT0
                rw [Hx.out] at r0
                rw [Hy.out] at r1
                rw [Hz.out] at r2
                have K0 : Ixq wr.drew gi (s1 : Int) (s2 : Int) (s3 : Int) gL u x y z := (⟨t0, t1, t2, r0, r1, r2⟩ : Ixq wr gi (s1 : Int) (s2 : Int) (s3 : Int) gL u x y z).below (Below.refl _ _).drew
                clear r0 r1 r2 t0 t1 t2 ht0 LT0
                go_upto_region 41 with (fail)
                refine wp_region_till (S := fun L W => Ixq W gi (s1 : Int) (s2 : Int) (s3 : Int) gL u x y z) (by kernel_rfl) K0 (fun hS => ?_)
                rw [HW7.out]
                rw [HW7.out] at hS
                clear K0
                refine till_take (i := 0) (v := .bool true) rfl (by kernel_rfl) (by kernel_rfl) (by kernel_rfl) (fun _ _ _ h => h) (fun L w => Iff.rfl) (Or.inl ⟨by rfl, fun w => by go_simp⟩) hS (fun hSb => ?_)
                simp only [List.getElem_toArray, List.getElem_cons_zero, List.getElem_cons_succ, Act.put, List.setIfInBounds_toArray, List.set_cons_zero, List.set_cons_succ]
                clear hS
                refine till_take (i := 1) (v := .bool false) rfl (by kernel_rfl) (by kernel_rfl) (by kernel_rfl) (fun _ _ _ h => h) (fun L w => Iff.rfl) (Or.inl ⟨by rfl, fun w => by go_simp⟩) hSb (fun hS => ?_)
                simp only [List.getElem_toArray, List.getElem_cons_zero, List.getElem_cons_succ, Act.put, List.setIfInBounds_toArray, List.set_cons_zero, List.set_cons_succ]
                clear hSb
                refine till_take (i := 2) (v := .bool false) rfl (by kernel_rfl) (by kernel_rfl) (by kernel_rfl) (fun _ _ _ h => h) (fun L w => Iff.rfl) (Or.inl ⟨by rfl, fun w => by go_simp⟩) hS (fun hSb => ?_)
                simp only [List.getElem_toArray, List.getElem_cons_zero, List.getElem_cons_succ, Act.put, List.setIfInBounds_toArray, List.set_cons_zero, List.set_cons_succ]
                clear hS
                refine till_take (i := 3) (v := .int .i64 (t : Int)) rfl (by kernel_rfl) (by kernel_rfl) (by kernel_rfl) (fun _ _ _ h => h) (fun L w => Iff.rfl) (Or.inl ⟨by rfl, fun w => by go_simp⟩) hSb (fun hS => ?_)
                simp only [List.getElem_toArray, List.getElem_cons_zero, List.getElem_cons_succ, Act.put, List.setIfInBounds_toArray, List.set_cons_zero, List.set_cons_succ]
                clear hSb
                refine till_take (i := 4) (v := .bool true) rfl (by kernel_rfl) (by kernel_rfl) (by kernel_rfl) (fun _ _ _ h => h) (fun L w => Iff.rfl) (Or.inl ⟨by rfl, fun w => by go_simp; omega⟩) hS (fun hSb => ?_)
                simp only [List.getElem_toArray, List.getElem_cons_zero, List.getElem_cons_succ, Act.put, List.setIfInBounds_toArray, List.set_cons_zero, List.set_cons_succ]
                clear hS
                refine till_take (i := 5) (v := .bool true) rfl (by kernel_rfl) (by kernel_rfl) (by kernel_rfl) (fun _ _ _ h => h) (fun L w => Iff.rfl) (Or.inl ⟨by rfl, fun w => by go_simp⟩) hSb (fun hS => ?_)
                simp only [List.getElem_toArray, List.getElem_cons_zero, List.getElem_cons_succ, Act.put, List.setIfInBounds_toArray, List.set_cons_zero, List.set_cons_succ]
                clear hSb
                refine till_take (i := 6) (v := .slice (some ⟨gL, 0, none⟩) xn lc) rfl (by kernel_rfl) (by kernel_rfl) (by kernel_rfl) (fun _ _ _ h => h) (fun L w => Iff.rfl) (Or.inl ⟨by rfl, fun w => by go_simp⟩) hS (fun hSb => ?_)
                simp only [List.getElem_toArray, List.getElem_cons_zero, List.getElem_cons_succ, Act.put, List.setIfInBounds_toArray, List.set_cons_zero, List.set_cons_succ]
                clear hS
                refine till_take (i := 7) (v := .int .i64 (t : Int)) rfl (by kernel_rfl) (by kernel_rfl) (by kernel_rfl) (fun _ _ _ h => h) (fun L w => Iff.rfl) (Or.inl ⟨by rfl, fun w => by go_simp⟩) hSb (fun hS => ?_)
                simp only [List.getElem_toArray, List.getElem_cons_zero, List.getElem_cons_succ, Act.put, List.setIfInBounds_toArray, List.set_cons_zero, List.set_cons_succ]
                clear hSb
                refine till_take (i := 8) (v := .int .i64 (u : Int)) rfl (by kernel_rfl) (by kernel_rfl) (by kernel_rfl) (fun _ _ _ h => h) (fun L w => Iff.rfl) (Or.inl ⟨by rfl, fun w => by go_simp; rw [IntKind.wrap_i64]; omega⟩) hS (fun hSb => ?_)
                simp only [List.getElem_toArray, List.getElem_cons_zero, List.getElem_cons_succ, Act.put, List.setIfInBounds_toArray, List.set_cons_zero, List.set_cons_succ]
                clear hS
                refine till_take (i := 9) (v := .pointer (some ⟨gL, u * 3, none⟩)) rfl (by kernel_rfl) (by kernel_rfl) (by kernel_rfl) (fun _ _ _ h => h) (fun L w => Iff.rfl) (Or.inl ⟨by rfl, fun w => by go_simp⟩) hSb (fun hS => ?_)
                simp only [List.getElem_toArray, List.getElem_cons_zero, List.getElem_cons_succ, Act.put, List.setIfInBounds_toArray, List.set_cons_zero, List.set_cons_succ]
                clear hSb
                refine till_read (i := 10) (c := 12) (v := .agg #[.int .i64 x, .int .i64 y, .int .i64 z]) (T := fun W => Ixq W gi (s1 : Int) (s2 : Int) (s3 : Int) gL u x y z) rfl rfl (by kernel_rfl) (by kernel_rfl) (by kernel_rfl) (by kernel_rfl) (by kernel_rfl) (fun _ _ _ h => h) (fun L w => Iff.rfl) (fun L w h1 h2 => h2) (Or.inl ⟨by rfl, fun w h => by have qy0 := h.y0; have qy1 := h.y1; have qy2 := h.y2; go_simp⟩) hS (fun hSb => ?_)
                simp only [List.getElem_toArray, List.getElem_cons_zero, List.getElem_cons_succ, Act.put, List.setIfInBounds_toArray, List.set_cons_zero, List.set_cons_succ]
                clear hS
                refine till_read (i := 11) (c := 12) (v := .agg #[.int .i64 (s1 : Int), .int .i64 (s2 : Int), .int .i64 (s3 : Int)]) (T := fun W => Ixq W gi (s1 : Int) (s2 : Int) (s3 : Int) gL u x y z) rfl rfl (by kernel_rfl) (by kernel_rfl) (by kernel_rfl) (by kernel_rfl) (by kernel_rfl) (fun _ _ _ h => h) (fun L w => Iff.rfl) (fun L w h1 h2 => h2) (Or.inl ⟨by rfl, fun w h => by have qx0 := h.x0; have qx1 := h.x1; have qx2 := h.x2; go_simp⟩) hSb (fun hS => ?_)
                simp only [List.getElem_toArray, List.getElem_cons_zero, List.getElem_cons_succ, Act.put, List.setIfInBounds_toArray, List.set_cons_zero, List.set_cons_succ]
                clear hSb
                refine till_one (i := 12) (by kernel_rfl) rfl (fun K hK => ?_)
                simp only [List.getElem_toArray, List.getElem_cons_zero, List.getElem_cons_succ]
                rw [if_pos (by rfl)]
                go_simp
                go_wp2_with (go_at_call 12; refine (less_n x y z (s1 : Int) (s2 : Int) (s3 : Int) _).mono ?_; rintro e w7 ⟨rfl, H7⟩; rw [LT.out])
                refine hK.out _ _ (hS.below H7.out) (fun hSb => ?_)
                clear hK K
                try simp only [List.getElem_toArray, List.getElem_cons_zero, List.getElem_cons_succ, Act.put, List.setIfInBounds_toArray, List.set_cons_zero, List.set_cons_succ]
                clear hS
                refine till_take (i := 13) (v := .bool false) rfl (by kernel_rfl) (by kernel_rfl) (by kernel_rfl) (fun _ _ _ h => h) (fun L w => Iff.rfl) (Or.inl ⟨by rfl, fun w => by go_simp⟩) hSb (fun hS => ?_)
                simp only [List.getElem_toArray, List.getElem_cons_zero, List.getElem_cons_succ, Act.put, List.setIfInBounds_toArray, List.set_cons_zero, List.set_cons_succ]
                clear hSb
                refine till_take (i := 14) (v := .bool false) rfl (by kernel_rfl) (by kernel_rfl) (by kernel_rfl) (fun _ _ _ h => h) (fun L w => Iff.rfl) (Or.inl ⟨by rfl, fun w => by go_simp⟩) hS (fun hSb => ?_)
                simp only [List.getElem_toArray, List.getElem_cons_zero, List.getElem_cons_succ, Act.put, List.setIfInBounds_toArray, List.set_cons_zero, List.set_cons_succ]
                clear hS
                refine till_take (i := 15) (v := .bool false) rfl (by kernel_rfl) (by kernel_rfl) (by kernel_rfl) (fun _ _ _ h => h) (fun L w => Iff.rfl) (Or.inl ⟨by rfl, fun w => by go_simp⟩) hSb (fun hS => ?_)
                simp only [List.getElem_toArray, List.getElem_cons_zero, List.getElem_cons_succ, Act.put, List.setIfInBounds_toArray, List.set_cons_zero, List.set_cons_succ]
                clear hSb
                refine till_take (i := 16) (v := .bool false) rfl (by kernel_rfl) (by kernel_rfl) (by kernel_rfl) (fun _ _ _ h => h) (fun L w => Iff.rfl) (Or.inl ⟨by rfl, fun w => by go_simp⟩) hS (fun hSb => ?_)
                simp only [List.getElem_toArray, List.getElem_cons_zero, List.getElem_cons_succ, Act.put, List.setIfInBounds_toArray, List.set_cons_zero, List.set_cons_succ]
                clear hS
                refine till_take (i := 17) (v := .pointer (some ⟨g, 0, none⟩)) rfl (by kernel_rfl) (by kernel_rfl) (by kernel_rfl) (fun _ _ _ h => h) (fun L w => Iff.rfl) (Or.inl ⟨by rfl, fun w => by go_simp⟩) hSb (fun hS => ?_)
                simp only [List.getElem_toArray, List.getElem_cons_zero, List.getElem_cons_succ, Act.put, List.setIfInBounds_toArray, List.set_cons_zero, List.set_cons_succ]
                clear hSb
                refine till_read (i := 18) (c := 19) (v := .agg #[.int .i64 (s1 : Int), .int .i64 (s2 : Int), .int .i64 (s3 : Int)]) (T := fun W => Ixq W gi (s1 : Int) (s2 : Int) (s3 : Int) gL u x y z) rfl rfl (by kernel_rfl) (by kernel_rfl) (by kernel_rfl) (by kernel_rfl) (by kernel_rfl) (fun _ _ _ h => h) (fun L w => Iff.rfl) (fun L w h1 h2 => h2) (Or.inl ⟨by rfl, fun w h => by have qx0 := h.x0; have qx1 := h.x1; have qx2 := h.x2; go_simp⟩) hS (fun hSb => ?_)
                simp only [List.getElem_toArray, List.getElem_cons_zero, List.getElem_cons_succ, Act.put, List.setIfInBounds_toArray, List.set_cons_zero, List.set_cons_succ]
                clear hS
                have F8 : Hid (Sf w1 w7 M E g d m ((3 : Nat) : Int) false v k) := F7.out.below H7.out
                refine till_one (i := 19) (by kernel_rfl) rfl (fun K hK => ?_)
                simp only [List.getElem_toArray, List.getElem_cons_zero, List.getElem_cons_succ]
                rw [if_pos (by rfl)]
                go_simp
                go_wp2_with (go_at_call 25; refine (has_v F8 GI HV hb3 h03 hs3).mono ?_; rintro e w8 ⟨rfl, H8⟩)
                refine hK.out _ _ (hSb.below H8.out) (fun hS => ?_)
                clear hK K
                try simp only [List.getElem_toArray, List.getElem_cons_zero, List.getElem_cons_succ, Act.put, List.setIfInBounds_toArray, List.set_cons_zero, List.set_cons_succ]
                clear hSb
                refine till_take (i := 20) (v := .bool false) rfl (by kernel_rfl) (by kernel_rfl) (by kernel_rfl) (fun _ _ _ h => h) (fun L w => Iff.rfl) (Or.inl ⟨by rfl, fun w => by go_simp⟩) hS (fun hSb => ?_)
                simp only [List.getElem_toArray, List.getElem_cons_zero, List.getElem_cons_succ, Act.put, List.setIfInBounds_toArray, List.set_cons_zero, List.set_cons_succ]
                clear hS
                refine till_take (i := 21) (v := .bool false) rfl (by kernel_rfl) (by kernel_rfl) (by kernel_rfl) (fun _ _ _ h => h) (fun L w => Iff.rfl) (Or.inl ⟨by rfl, fun w => by go_simp⟩) hSb (fun hS => ?_)
                simp only [List.getElem_toArray, List.getElem_cons_zero, List.getElem_cons_succ, Act.put, List.setIfInBounds_toArray, List.set_cons_zero, List.set_cons_succ]
                clear hSb
                refine till_done (by kernel_rfl) ?_ _
                clear hS
                have NX : Hid (Below w4.heap.size w4 w8) := B7.out.trans ((H7.out.mono B7.out.size).trans (H8.out.mono (Nat.le_trans B7.out.size H7.out.size)))
                go_wp2
                go_roundw
                case rel => exact ⟨t + 1, by omega, by go_num, NX⟩
                case measure => simp [intOf]; omega
        · have F9 : Hid (Sf w1 wr M E g d m ((3 : Nat) : Int) false v k) := L5.out.sf
          have M9 : Hid (Mxl wr) := M1.out.below F9.out.bel
          have BZ : Hid (Below w.heap.size w wr) := BE.out.trans (HB5.out.mono BE.out.size)
          go_wp2_with (go_at_call 21; refine (sweep_v F9 M9 AB).mono ?_; rintro e w9 ⟨rfl, H9⟩)
          go_ret
          exact ⟨rfl, BZ.out.trans (H9.out.mono BZ.out.size)⟩
end Go.Proofs.YtkdgakcmhnadfaaGreatDoor
