/- What parity and Encode of package rs do, for all numbers and bytes. -/
import Derived.Test.YtokkjdgfhpocdaaDoorEb
import Derived.Test.YtokkjdgfhpocdaaDoorWq
namespace Go.Proofs.YtokkjdgfhpocdaaDoor
open Go.ChangeShapes Go.WideShapes Go.ChangeAt Go.RowKit
set_option linter.unusedVariables false
set_option linter.unusedSimpArgs false
set_option linter.unnecessarySimpa false
/- rows that the cells of block g lead to, all of n bytes -/
structure Lst (w : World) (g n : Nat) (R : List (List Nat)) : Prop where
  c : ∀ i, i < R.length → ∃ b, w.cell? ⟨g, i, none⟩ = some (sv n b) ∧ Blk w b (R.getD i [])
  rl : ∀ i, i < R.length → (R.getD i []).length = n
  lt : ∀ i, i < R.length → ∀ x ∈ R.getD i [], x < 256
theorem Lst.below {w w' : World} {g n : Nat} {R : List (List Nat)} (h : Lst w g n R) (hb : Below w.heap.size w w') : Lst w' g n R :=
  ⟨fun i hi => by
    obtain ⟨b, h1, h2⟩ := h.c i hi
    exact ⟨b, (hb.cell (p := ⟨g, i, none⟩) (cell_lt' h1)).trans h1, h2.below hb h2.lt⟩, h.rl, h.lt⟩
def parN (k number size : Nat) (D : List (List Nat)) : Nat → List Nat
  | 0 => List.replicate size 0
  | j + 1 => addSc (parN k number size D j) (fac k number j) (D.getD j [])
theorem parN_length (k number size : Nat) (D : List (List Nat)) (j : Nat) (h : ∀ i, i < j → (D.getD i []).length = size) : (parN k number size D j).length = size := by
  induction j with
  | zero => simp [parN]
  | succ j ih =>
    simp only [parN]
    rw [addSc_length, ih (fun i hi => h i (by omega)), h j (by omega), Nat.max_self]
theorem parN_lt (k number size : Nat) (D : List (List Nat)) (j : Nat) (hn : number < 16) (hj : j ≤ 16) : ∀ x ∈ parN k number size D j, x < 256 := by
  induction j with
  | zero => exact replicate_lt _
  | succ j ih => exact addSc_lt (fac_lt _ _ _ hn (by omega)) (ih (by omega))
set_option maxHeartbeats 1000000 in
theorem parity_any (k number size gs ns cs : Nat) (D : List (List Nat)) (w : World) (hk2 : k ≤ 16) (hn : number < 16) (hsz : size ≤ 1100) (hns : k ≤ ns) (L : Hid (Lst w gs size D)) (hD : Hid (k ≤ D.length)) :
    Calls Tryd.prog 28 #[.int .i64 (k : Int), .int .i64 (number : Int), .int .i64 (size : Int), .slice (some ⟨gs, 0, none⟩) ns cs] w fun e w' => ∃ b, e = .returned (sv size b) ∧ Hid (w.heap.size ≤ b ∧ Blk w' b (parN k number size D k) ∧ Below w.heap.size w w') := by
  have mk2 := make_bytes size (by omega)
  go_enter Tryd.func28, Tryd.ntmps28
  go_wp2
  go_loopw [14, 9] (fun ti ts wr => ∃ j b : Nat, j ≤ k ∧ ti = .int .i64 j ∧ ts = .slice (some ⟨b, 0, none⟩) size size ∧ Hid (w.heap.size ≤ b ∧ Blk wr b (parN k number size D j) ∧ Below w.heap.size w wr)) (fun ti _ _ => k - (intOf ti).toNat)
  case atStart => exact ⟨0, _, by omega, rfl, rfl, Nat.le_refl _, Blk.made w size, (Below.refl _ _).alloc (Nat.le_refl _) _⟩
  case round =>
    obtain ⟨j, b, hj, rfl, rfl, HJ⟩ := hrel
    by_cases hlt : j < k
    · have hD2 := hD.out
      have LW : Lst wr gs size D := L.out.below HJ.out.2.2
      obtain ⟨bd, c1, B1⟩ := LW.c j (by omega)
      have l1 := parN_length k number size D j (fun i hi => L.out.rl i (by omega))
      have l2 := L.out.rl j (by omega)
      have SA : Hid (Sln wr.drew (some ⟨b, 0, none⟩) size (parN k number size D j)) := ⟨l1.symm, (HJ.out.2.1.sli (parN_lt _ _ _ _ _ hn (by omega)) (by omega))⟩
      have SB : Hid (Sln wr.drew (some ⟨bd, 0, none⟩) size (D.getD j [])) := ⟨l2.symm, (B1.sli (L.out.lt j (by omega)) (by omega))⟩
      have BW : Hid (Below w.heap.size w wr.drew) := HJ.out.2.2.drew
      have hf := fac_lt k number j hn (by omega)
      have hl0 : (addSc (parN k number size D j) (fac k number j) (D.getD j [])).length = size := by rw [addSc_length, l1, l2, Nat.max_self]
      have HL : Hid ((addSc (parN k number size D j) (fac k number j) (D.getD j [])).length = size) := hl0
      clear hl0
      have i1 : (j : Int) < (k : Int) := by omega
      have i2 : (j : Int) < (ns : Int) := by omega
      have hj16 : j < 16 := by omega
      have PN : Hid (parN k number size D (j + 1) = addSc (parN k number size D j) (fac k number j) (D.getD j [])) := rfl
      clear HJ LW B1 l1 l2 hD2
      go_wp2
      go_still_tail 9, (by kernel_rfl)
      still_call (factor_any k number j hk2 hn hj16 _)
      repeat still_step
      refine wpStill_nil ?_
      generalize hw4 : ({ heap := wr.heap, tape := wr.tape, drawn := wr.drawn + 1, os := wr.os, output := wr.output } : World) = w4
      have hw5 : wr.drew = w4 := hw4
      rw [hw5] at SA SB BW
      clear hw4 hw5
      go_wp2_with (go_at_call 37; refine (addScaled_n hf SA SB).mono ?_; rintro e w' ⟨g, n, rfl, hM⟩)
      have en : n = size := by rw [← HL.out]; exact hM.out.sln.len
      subst en
      go_roundw
      case rel => exact ⟨j + 1, g, by omega, by go_num, rfl, by rw [hM.out.at_]; exact BW.out.size, by rw [PN.out]; exact hM.out.blk, BW.out.trans (hM.out.bel.mono BW.out.size)⟩
      case measure => simp [intOf]; omega
    · have e : j = k := by omega
      subst e
      go_wp2
      go_ret
      exact ⟨b, rfl, HJ.out⟩
/- the shards of a blob -/
def shard (k size : Nat) (data : List Nat) (i : Nat) : List Nat := if i < k then dsh size data i else parN k i size ((List.range k).map (dsh size data)) k
def shards (k m : Nat) (data : List Nat) : List (List Nat) := (List.range (k + m)).map (shard k (sz k data.length) data)
theorem shard_length (k size : Nat) (data : List Nat) (i : Nat) : (shard k size data i).length = size := by
  unfold shard
  split
  · exact dsh_length _ _ _
  · exact parN_length _ _ _ _ _ (fun j hj => by simp [List.getD, hj, dsh_length])
theorem shard_lt {k size : Nat} {data : List Nat} (h : ∀ x ∈ data, x < 256) (i : Nat) (hi : i < 16) (hk : k ≤ 16) : ∀ x ∈ shard k size data i, x < 256 := by
  unfold shard
  split
  · exact dsh_lt h _
  · exact parN_lt _ _ _ _ _ hi hk
theorem range_shard (k size : Nat) (data : List Nat) : (List.range k).map (dsh size data) = (List.range k).map (shard k size data) := by
  apply List.map_congr_left
  intro i hi
  simp at hi
  simp [shard, hi]
/- rows of the call's own: their first cells lead to the rows -/
theorem own_lst {w : World} {B g k cap n : Nat} {bs : List Nat} {R : List (List Nat)} (own : w.ownsRow B 33 1 (.slice (some ⟨g, 0, none⟩) k cap) k (bs.map (sv n))) (h : Shs w bs n R) : Lst w g n R := by
  refine ⟨fun i hi => ⟨bs.getD i 0, ?_, h.blk i hi⟩, h.rl, h.lt⟩
  have hi2 : i < bs.length := by rw [h.len]; exact hi
  have h3 := own.cells (g := g) rfl i (sv n (bs.getD i 0)) (by
    rw [List.getElem?_map, List.getElem?_eq_getElem hi2]
    simp [List.getD, hi2])
  have h4 : (⟨g, 0, none⟩ : Addr).add i = ⟨g, i, none⟩ := by
    by_cases hi0 : i = 0
    · subst hi0; simp [Addr.add]
    · simp [Addr.add, hi0]
  rw [h4] at h3
  exact h3
theorem own_notin {w : World} {B g k cap n : Nat} {vs : List Value} {bs : List Nat} {R : List (List Nat)} (own : w.ownsRow B 33 1 (.slice (some ⟨g, 0, none⟩) k cap) k vs) (h : Shs w bs n R) : g ∉ bs := by
  intro hm
  obtain ⟨i, hi, he⟩ := List.getElem_of_mem hm
  have hb := h.blk i (by rw [← h.len]; exact hi)
  have e : bs.getD i 0 = g := by simp [List.getD, hi, he]
  rw [e] at hb
  rcases own.2 with ⟨h1, _⟩ | ⟨g', cap', cur, h1, _, hg, _⟩
  · simp at h1
  · simp at h1
    obtain ⟨rfl, _⟩ := h1
    unfold Blk at hb
    rw [hg] at hb
    simp at hb
theorem own_below {w w' : World} {B g k cap : Nat} {vs : List Value} (own : w.ownsRow B 33 1 (.slice (some ⟨g, 0, none⟩) k cap) k vs) (hb : Below w.heap.size w w') : w'.ownsRow B 33 1 (.slice (some ⟨g, 0, none⟩) k cap) k vs := by
  refine ⟨own.1, ?_⟩
  rcases own.2 with ⟨h1, _⟩ | ⟨g', cap', cur, h1, h2, hg, h3⟩
  · simp at h1
  · exact .inr ⟨g', cap', cur, h1, h2, (hb.block g' (Array.getElem?_eq_some_iff.1 hg).1).trans hg, h3⟩
theorem map_sv_one (n : Nat) (bs : List Nat) : ∀ u ∈ bs.map (sv n), u.oneCell' = true := by
  intro v hv
  obtain ⟨x, _, rfl⟩ := List.mem_map.1 hv
  rfl
theorem app_row (w : World) (B g k cap n b : Nat) (bs : List Nat) (own : w.ownsRow B 33 1 (.slice (some ⟨g, 0, none⟩) k cap) k (bs.map (sv n))) (hB : B ≤ w.heap.size) (hk : k ≤ 1000) :
    ∃ g' cap' w', (Builtin.append_ #[35, 35] 35 #[.slice (some ⟨g, 0, none⟩) k cap, .slice (some ⟨w.heap.size, 0, none⟩) 1 1]).run Tryd.prog (w.alloc (.cells #[sv n b] 33)) = .ok (.slice (some ⟨g', 0, none⟩) (k + 1) cap') w' ∧ w'.ownsRow B 33 1 (.slice (some ⟨g', 0, none⟩) (k + 1) cap') (k + 1) ((bs ++ [b]).map (sv n)) ∧ (w.alloc (.cells #[sv n b] 33)).grownBy w' (some g) := by
  obtain ⟨i, hi, hz0, hz1, hz2⟩ := info_parts info33
  have b1 : VBlk (w.alloc (.cells #[sv n b] 33)) w.heap.size [sv n b] := by
    show (w.heap.push _)[w.heap.size]? = _
    simp
  obtain ⟨v', w', hrun, hown, hgr, _⟩ := run_append_own (P := Tryd.prog) (w.alloc (.cells #[sv n b] 33)) B 35 35 33 i (.slice none 0 0) 1 24 Tryd.underlying35 hi hz0 hz1 hz2 rfl (by decide) _ k (bs.map (sv n)) (own.alloc _) ⟨w.heap.size, 0, none⟩ 1 1 ([b].map (sv n)) rfl (fun j u hu => by
      have hj : j = 0 := by
        have := (List.getElem?_eq_some_iff.1 hu).1
        simp at this; omega
      subst hj
      have h2 := b1.cell 0
      simp at hu
      simp [Addr.add]
      simpa [hu] using h2) (map_sv_one _ _) (by unfold maxLen; omega) (by omega) (by simp; omega)
  rcases hown.2 with ⟨_, h0⟩ | ⟨g', cap', cur, rfl, _⟩
  · omega
  · refine ⟨g', cap', w', hrun, ?_, hgr⟩
    rw [List.map_append]
    exact hown
theorem grown_shs {w w' : World} {bs : List Nat} {n g : Nat} {R : List (List Nat)} (h : Shs w bs n R) (hg : w.grownBy w' (some g)) (hn : g ∉ bs) : Shs w' bs n R :=
  h.to fun b hm => hg.block b (h.mem hm) (by intro e; simp at e; exact hn (e ▸ hm))
/- an append to a row of rows whose run is known -/
theorem wpList_app35 {ops : Array Oper} {rest : List Oper} {o : Oper} {a : Act} {Q : Exit → Act → World → Prop} {w w' : World} {v v1 v2 : Value} (hgd : o.guard = none) (s x : Operand)
    (ho : o.op = .call { callee := .builtin .append, args := #[s, x], argTypes := #[35, 35] }) (hty : o.type = 35) (hs : a.eval s = v1) (hx : a.eval x = v2) (hrun : Hid ((Builtin.append_ #[35, 35] 35 #[v1, v2]).run Tryd.prog w = .ok v w'))
    (h : wpList Tryd.prog ops Q rest (a.put o.dst v) w') : wpList Tryd.prog ops Q (o :: rest) a w := by
  refine wpList_plain hgd fun K hK => ?_
  have hr := hrun.out
  unfold Oper.wp
  simp [execOp, ho, resolve, invoke, builtin, hs, hx, hty, hr, Result.andThen]
  exact hK _ _ h
/- what Encode leaves -/
structure Enc (w w' : World) (g cap k m : Nat) (bs : List Nat) (data : List Nat) : Prop where
  own : w'.ownsRow w.heap.size 33 1 (.slice (some ⟨g, 0, none⟩) (k + m) cap) (k + m) (bs.map (sv (sz k data.length)))
  shs : Shs w' bs (sz k data.length) (shards k m data)
  new : ∀ b ∈ bs, w.heap.size ≤ b
  bel : Below w.heap.size w w'
theorem size_s (k m n s : Nat) (h1 : 1 ≤ m) (h2 : m ≤ k) (h3 : k + m ≤ 16) (hn : n ≤ 1024) (Hs : Hid (sz k n = s)) (w : World) :
    Calls Tryd.prog 12 #[.int .i64 (k : Int), .int .i64 (m : Int), .int .i64 (n : Int)] w fun e w' => e = .returned (.tuple #[.int .i64 (s : Int), .nilIface]) ∧ w' = w := by
  have h := size_ok k m n h1 h2 h3 hn w
  rw [Hs.out] at h
  exact h
set_option maxRecDepth 20000 in
set_option maxHeartbeats 1000000 in
theorem encode_ok (k m n c : Nat) (a : Option Addr) (data : List Nat) (w : World) (h1 : 1 ≤ m) (h2 : m ≤ k) (h3 : k + m ≤ 16) (hn : n ≤ 1024) (S : Hid (Sln w a n data)) (hc : n ≤ c) (hc2 : c ≤ 140737488351232) :
    Calls Tryd.prog 16 #[.int .i64 (k : Int), .int .i64 (m : Int), .slice a n c] w fun e w' => ∃ g bs cap, e = .returned (.tuple #[.slice (some ⟨g, 0, none⟩) (k + m) cap, .nilIface]) ∧ Hid (Enc w w' g cap k m bs data) := by
  have hs : sz k n ≤ 1039 := by
    have := Nat.div_le_self (n + k - 1) k
    unfold sz; omega
  have hdl := S.out.len
  obtain ⟨s, Hs⟩ : ∃ s, Hid (sz k n = s) := ⟨_, rfl⟩
  rw [Hs.out] at hs
  have HDL : Hid (sz k data.length = s) := by rw [← hdl]; exact Hs.out
  clear hdl
  go_enter Tryd.func16, Tryd.ntmps16
  go_wp2_with (first | (go_at_call 12; refine (size_s k m n s h1 h2 h3 hn Hs _).mono ?_; rintro e w0 ⟨rfl, h0⟩; rw [h0]; clear h0) | (go_at_call 27; refine (split_any k s n c a data _ (by omega) (by omega) (by omega) hn S hc hc2).mono ?_; rintro e w1 ⟨g, bs, rfl, H1⟩))
  go_loopw [11, 10] (fun ti tv wr => ∃ i g cap : Nat, k ≤ i ∧ i ≤ k + m ∧ ti = .int .i64 i ∧ tv = .slice (some ⟨g, 0, none⟩) i cap ∧ Hid (∃ bs : List Nat, wr.ownsRow w.heap.size 33 1 (.slice (some ⟨g, 0, none⟩) i cap) i (bs.map (sv s)) ∧ Shs wr bs s ((List.range i).map (shard k s data)) ∧ (∀ b ∈ bs, w.heap.size ≤ b) ∧ Below w.heap.size w wr)) (fun ti _ _ => k + m - (intOf ti).toNat)
  case atStart =>
    refine ⟨k, g, k, by omega, by omega, rfl, rfl, bs, ?_, by rw [← range_shard]; exact H1.out.2.2.1, fun b hb => ?_, H1.out.2.2.2.2⟩
    · have hv := H1.out.2.1
      have hl := H1.out.2.2.1.len
      simp at hl
      exact ⟨by simp [hl], .inr ⟨g, k, _, rfl, by rw [H1.out.1]; exact Nat.le_refl _, hv, Nat.le_refl _, by unfold maxLen; omega, by simp [hl], by simp; exact List.take_of_length_le (by simp [hl])⟩⟩
    · have h5 := H1.out.2.2.2.1 b hb
      have h6 := H1.out.1
      omega
  case round =>
    obtain ⟨i, g2, cap, hi1, hi2, rfl, rfl, HI⟩ := hrel
    by_cases hlt : i < k + m
    · obtain ⟨bs2, own, shs, new, bel⟩ := HI.out
      have LW : Hid (Lst wr g2 s ((List.range i).map (shard k s data))) := own_lst own shs
      have hD : Hid (k ≤ ((List.range i).map (shard k s data)).length) := (by simp; exact hi1 : k ≤ ((List.range i).map (shard k s data)).length)
      have OWN : Hid (wr.ownsRow w.heap.size 33 1 (.slice (some ⟨g2, 0, none⟩) i cap) i (bs2.map (sv s)) ∧ Shs wr bs2 s ((List.range i).map (shard k s data)) ∧ (∀ b ∈ bs2, w.heap.size ≤ b) ∧ Below w.heap.size w wr) := ⟨own, shs, new, bel⟩
      have i1 : (i : Int) < (k : Int) + (m : Int) := by omega
      have j1 : i < 16 := by omega
      have SI : Hid (shard k s data i = parN k i s ((List.range i).map (shard k s data)) k) := by
        have e1 : shard k s data i = parN k i s ((List.range k).map (dsh s data)) k := by simp [shard]; omega
        have e2 : ∀ j, j ≤ k → parN k i s ((List.range k).map (dsh s data)) j = parN k i s ((List.range i).map (shard k s data)) j := by
          intro j
          induction j with
          | zero => intro _; rfl
          | succ j ih =>
            intro hj
            simp only [parN]
            rw [ih (by omega)]
            congr 1
            have q1 : j < k := by omega
            have q2 : j < i := by omega
            simp [List.getD, q1, q2, shard]
        exact e1.trans (e2 k (Nat.le_refl _))
      have SL : Hid (∀ x ∈ shard k s data i, x < 256) := shard_lt S.out.lt i j1 (by omega)
      clear HI own shs new bel H1
      go_wp2_with (first | (go_at_call 28; refine (parity_any k i s g2 i cap _ _ (by omega) j1 (by omega) hi1 LW hD).mono ?_; rintro e w2 ⟨b, rfl, HP⟩; have hw2 := OWN.out.2.2.2.size; have hwr := HP.out.2.2.size; obtain ⟨g3, cap3, w3, ap, own3, gr⟩ := app_row w2 w.heap.size g2 i cap s b bs2 (own_below OWN.out.1 HP.out.2.2) (by omega) (by omega); have AP : Hid _ := ap; have OWN3 : Hid (w3.ownsRow w.heap.size 33 1 (.slice (some ⟨g3, 0, none⟩) (i + 1) cap3) (i + 1) ((bs2 ++ [b]).map (sv s))) := own3; have GR : Hid ((w2.alloc (.cells #[sv s b] 33)).grownBy w3 (some g2)) := gr; clear ap own3 gr hw2 hwr) | (at_builtin; refine wpList_app35 (by rfl) (.tmp 35) (.tmp 41) (by rfl) (by rfl) (by rfl) (by rfl) AP ?_))
      have FIN : Hid (∃ bs : List Nat, w3.ownsRow w.heap.size 33 1 (.slice (some ⟨g3, 0, none⟩) (i + 1) cap3) (i + 1) (bs.map (sv s)) ∧ Shs w3 bs s ((List.range (i + 1)).map (shard k s data)) ∧ (∀ b ∈ bs, w.heap.size ≤ b) ∧ Below w.heap.size w w3) := by
        have hz := OWN.out.2.2.2.size
        have hz2 := HP.out.2.2.size
        have hb1 : w.heap.size ≤ b := Nat.le_trans hz HP.out.1
        have nb : b ∉ bs2 := fun hm => by have := OWN.out.2.1.mem hm; have := HP.out.1; omega
        have s2 := (OWN.out.2.1.below HP.out.2.2).snoc HP.out.2.1 (by rw [← SI.out]; exact shard_length _ _ _ _) (by rw [← SI.out]; exact SL.out) nb
        have own2 := own_below OWN.out.1 HP.out.2.2
        have s3 := s2.below ((Below.refl w2.heap.size w2).alloc (Nat.le_refl _) (.cells #[sv s b] 33))
        have ni := own_notin (own2.alloc (.cells #[sv s b] 33)) s3
        refine ⟨bs2 ++ [b], OWN3.out, ?_, ?_, ?_⟩
        · have h := grown_shs s3 GR.out ni
          rw [List.range_succ, List.map_append]
          simp only [List.map_cons, List.map_nil]
          rw [SI.out]
          exact h
        · intro x hx
          rcases List.mem_append.1 hx with h | h
          · exact OWN.out.2.2.1 x h
          · simp at h; omega
        · have hg := (own2.lt g2 rfl).1
          have hb2 : Below w.heap.size w w2 := OWN.out.2.2.2.trans (HP.out.2.2.mono hz)
          exact (hb2.alloc hb2.size _).grown GR.out (hb2.alloc hb2.size _).size (fun k e => by simp at e; omega)
      go_roundw
      case rel => exact ⟨i + 1, g3, cap3, by omega, by omega, by go_num, rfl, FIN.out⟩
      case measure => simp [intOf]; omega
    · have e : i = k + m := by omega
      have FIN : Hid (∃ bs, Enc w wr g2 cap k m bs data) := by
        obtain ⟨bs2, own, shs, new, bel⟩ := HI.out
        subst e
        refine ⟨bs2, by rw [HDL.out]; exact own, ?_, new, bel⟩
        unfold shards
        rw [HDL.out]
        exact shs
      clear HI H1
      subst e
      go_wp2
      go_ret2
      obtain ⟨bs2, hE⟩ := FIN.out
      exact ⟨g2, bs2, cap, rfl, hE⟩
end Go.Proofs.YtokkjdgfhpocdaaDoor
