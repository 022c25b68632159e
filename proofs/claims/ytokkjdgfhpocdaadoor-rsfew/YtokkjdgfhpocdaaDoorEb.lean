/- Rows of rows in memory, copies into a row, and what split of package rs does: it gives the data shards, each in memory of its own. -/
import Derived.Test.YtokkjdgfhpocdaaDoorEa
import Derived.Test.YtokkjdgfhpocdaaDoorWn
import Derived.StillTailTactics
namespace Go.Proofs.YtokkjdgfhpocdaaDoor
open Go.ChangeShapes Go.WideShapes Go.ChangeAt Go.RowKit
set_option linter.unusedVariables false
set_option linter.unusedSimpArgs false
theorem info33 : (Tryd.prog.info? 33).map (fun i => (i.zero, i.size, i.bytes)) = some (some (.slice none 0 0), 1, 24) := by kernel_rfl
theorem make_rows (n : Nat) (h : n ≤ 1000000) (w : World) : (Instr.makeSlice 35 (.int .i64 (n : Int)) (.int .i64 (n : Int))).run Tryd.prog w = .ok (.slice (some ⟨w.heap.size, 0, none⟩) n n) (w.alloc (.cells (madeCells #[.slice none 0 0] n) 33)) := by
  obtain ⟨i, hi, hz0, hz1, hz2⟩ := info_parts info33
  have hr := run_make (P := Tryd.prog) w 35 33 i (.slice none 0 0) Tryd.underlying35 hi hz0 .i64 .i64 n n (by omega) (by omega) (by rw [hz2]; omega) (by omega)
  rw [hz1] at hr
  simpa [Value.cells] using hr
/- block g holds just these values -/
def VBlk (w : World) (g : Nat) (vs : List Value) : Prop := w.heap[g]? = some (.cells vs.toArray 33 (0, 0))
theorem VBlk.lt {w : World} {g : Nat} {vs : List Value} (h : VBlk w g vs) : g < w.heap.size := (Array.getElem?_eq_some_iff.1 h).1
theorem VBlk.cell {w : World} {g : Nat} {vs : List Value} (h : VBlk w g vs) (i : Nat) : w.cell? ⟨g, i, none⟩ = vs[i]? := by
  unfold VBlk at h
  simp [World.cell?, h]
theorem VBlk.frozen {w : World} {g : Nat} {vs : List Value} (h : VBlk w g vs) (i : Nat) : w.frozen? ⟨g, i, none⟩ = false := by
  unfold VBlk at h
  simp [World.frozen?, h]
theorem VBlk.below {B : Nat} {w w' : World} {g : Nat} {vs : List Value} (h : VBlk w g vs) (hb : Below B w w') (hg : g < B) : VBlk w' g vs := (hb.block g hg).trans h
theorem VBlk.oth {k : Nat} {w w' : World} {g : Nat} {vs : List Value} (h : VBlk w g vs) (hb : Oth k w w') (hg : g ≠ k) : VBlk w' g vs := (hb.block g hg).trans h
theorem VBlk.set {w : World} {g : Nat} {vs : List Value} (h : VBlk w g vs) (i : Nat) (v : Value) : VBlk (w.setCell ⟨g, i, none⟩ v) g (vs.set i v) := by
  have h0 : w.heap[g]? = some (.cells vs.toArray 33 (0, 0)) := h
  rw [setCell_eq_setRow w g i _ 33 (0, 0) _ h0]
  have h1 := setRow_heap w g _ (vs.toArray.setIfInBounds i v) 33 (0, 0) h0
  unfold VBlk
  rw [h1]
  simp
theorem VBlk.made (w : World) (n : Nat) : VBlk (w.alloc (.cells (madeCells #[.slice none 0 0] n) 33)) w.heap.size (List.replicate n (.slice none 0 0)) := by
  have e : madeCells #[Value.slice none 0 0] n = (List.replicate n (Value.slice none 0 0)).toArray := by
    apply Array.ext
    · simp [madeCells]
    · intro i h1 h2
      simp [madeCells, Nat.mod_one]
  rw [e]
  show (w.heap.push _)[w.heap.size]? = _
  simp
/- a copy into a row of plain bytes -/
theorem copy_at (w : World) (b o n dc m c : Nat) (a : Option Addr) (L l : List Nat) (hB : Blk w b L) (hL : o + n ≤ L.length) (hS : Sln w a m l) :
    ∃ w1, (Builtin.copy_ #[33, 33] 3 #[.slice (some ⟨b, o, none⟩) n dc, .slice a m c]).run Tryd.prog w = .ok (goInt (min m n : Nat)) w1 ∧ Blk w1 b (L.take o ++ l.take n ++ L.drop (o + min m n)) ∧ Oth b w w1 := by
  have e := hS.len
  by_cases h0 : min m n = 0
  · refine ⟨w, ?_, ?_, Oth.refl _ _⟩
    · rw [run_copy_none (P := Tryd.prog) w 33 33 3 5 _ a n dc m c Tryd.underlying33 size5 h0, h0]; rfl
    · have h1 : l.take n = [] := by
        rcases Nat.eq_zero_of_not_pos (by omega : ¬ 0 < min m n) |> fun _ => (by omega : m = 0 ∨ n = 0) with h | h
        · have : l = [] := List.eq_nil_of_length_eq_zero (by omega)
          rw [this]; simp
        · rw [h]; simp
      rw [h1, h0]; simpa using hB
  · have hl0 : l ≠ [] := by intro h; rw [h] at e; simp at e; omega
    obtain ⟨sb, so, rfl, hl, hr⟩ := hS.sli.2.2.resolve_left hl0
    have hcl : ((l.take n).map bv).length = min m n := by simp; omega
    have hrun := run_copy_row (P := Tryd.prog) w 33 33 3 5 b o n dc ⟨sb, so, none⟩ m c _ 5 ((l.take n).map bv) Tryd.underlying33 size5 hB
      (by rw [hcl]) (fun j v hv => by
        have hv2 : (l.map bv)[j]? = some v := by
          rw [List.map_take] at hv
          rw [List.getElem?_take] at hv
          split at hv
          · exact hv
          · cases hv
        exact map_cells hr j v hv2) (by rw [hcl]; simp; omega) (fun v hv => map_one _ v hv)
    rw [hcl] at hrun
    refine ⟨_, hrun, ?_, ?_⟩
    · have h7 := setRow_heap w b _ ((((L.map bv).toArray.toList.take o ++ (l.take n).map bv ++ (L.map bv).toArray.toList.drop (o + min m n)).toArray)) 5 (0, 0) hB
      refine h7.trans ?_
      simp
    · exact ⟨rfl, rfl, rfl, by simp [World.setRow], fun k hk => by
        simp only [World.setRow]
        rw [Array.getElem?_modify, if_neg (by omega)]⟩
/- the data shards -/
def dsh (size : Nat) (data : List Nat) (j : Nat) : List Nat := ext ((data.drop (j * size)).take size) size
/- rows that lie each in a block of its own, all of n bytes -/
structure Shs (w : World) (bs : List Nat) (n : Nat) (R : List (List Nat)) : Prop where
  len : bs.length = R.length
  blk : ∀ i, i < R.length → Blk w (bs.getD i 0) (R.getD i [])
  rl : ∀ i, i < R.length → (R.getD i []).length = n
  lt : ∀ i, i < R.length → ∀ x ∈ R.getD i [], x < 256
  nd : bs.Nodup
abbrev sv (n b : Nat) : Value := .slice (some ⟨b, 0, none⟩) n n
theorem Shs.nil (w : World) (n : Nat) : Shs w [] n [] := ⟨rfl, fun i h => by simp at h, fun i h => by simp at h, fun i h => by simp at h, List.nodup_nil⟩
theorem Shs.mem {w : World} {bs : List Nat} {n : Nat} {R : List (List Nat)} (h : Shs w bs n R) {b : Nat} (hb : b ∈ bs) : b < w.heap.size := by
  obtain ⟨i, hi, rfl⟩ := List.getElem_of_mem hb
  have := (h.blk i (by rw [← h.len]; exact hi)).lt
  simpa [List.getD, hi] using this
theorem Shs.to {w w' : World} {bs : List Nat} {n : Nat} {R : List (List Nat)} (h : Shs w bs n R) (hb : ∀ b ∈ bs, w'.heap[b]? = w.heap[b]?) : Shs w' bs n R :=
  ⟨h.len, fun i hi => (hb _ (by
      have hi2 : i < bs.length := by rw [h.len]; exact hi
      have e : bs.getD i 0 = bs[i] := by simp [List.getD, hi2]
      rw [e]; exact List.getElem_mem hi2)).trans (h.blk i hi), h.rl, h.lt, h.nd⟩
theorem Shs.below {w w' : World} {bs : List Nat} {n : Nat} {R : List (List Nat)} (h : Shs w bs n R) (hb : Below w.heap.size w w') : Shs w' bs n R :=
  h.to fun b hm => hb.block b (h.mem hm)
theorem Shs.snoc {w' : World} {bs : List Nat} {n b : Nat} {R : List (List Nat)} {l : List Nat} (h : Shs w' bs n R) (hb : Blk w' b l) (hn : l.length = n) (hl : ∀ x ∈ l, x < 256) (hf : b ∉ bs) : Shs w' (bs ++ [b]) n (R ++ [l]) := by
  have e : ∀ i, i < (R ++ [l]).length → i < R.length ∧ (bs ++ [b]).getD i 0 = bs.getD i 0 ∧ (R ++ [l]).getD i [] = R.getD i [] ∨ (bs ++ [b]).getD i 0 = b ∧ (R ++ [l]).getD i [] = l := by
    intro i hi
    by_cases h1 : i < R.length
    · left
      have h2 : i < bs.length := by rw [h.len]; exact h1
      exact ⟨h1, by simp only [List.getD]; rw [List.getElem?_append_left h2], by simp only [List.getD]; rw [List.getElem?_append_left h1]⟩
    · right
      have h3 : i = R.length := by simp at hi; omega
      subst h3
      have h4 := h.len
      exact ⟨by simp only [List.getD]; rw [List.getElem?_append_right (by omega), ← h4]; simp, by simp [List.getD]⟩
  refine ⟨by simp [h.len], fun i hi => ?_, fun i hi => ?_, fun i hi => ?_, ?_⟩
  · rcases e i hi with ⟨a, b', c⟩ | ⟨b', c⟩
    · rw [b', c]; exact h.blk i a
    · rw [b', c]; exact hb
  · rcases e i hi with ⟨a, b', c⟩ | ⟨b', c⟩
    · rw [c]; exact h.rl i a
    · rw [c]; exact hn
  · rcases e i hi with ⟨a, b', c⟩ | ⟨b', c⟩
    · rw [c]; exact h.lt i a
    · rw [c]; exact hl
  · rw [List.nodup_append]
    exact ⟨h.nd, by simp, fun a ha c hc => by simp at hc; subst hc; exact fun h2 => hf (h2 ▸ ha)⟩
theorem dsh_length (size : Nat) (data : List Nat) (j : Nat) : (dsh size data j).length = size := ext_length _ _ (by simp; omega)
theorem dsh_lt {size : Nat} {data : List Nat} (h : ∀ x ∈ data, x < 256) (j : Nat) : ∀ x ∈ dsh size data j, x < 256 :=
  ext_lt (fun x hx => h x (List.mem_of_mem_drop (List.mem_of_mem_take hx))) _
theorem copied_dsh (size : Nat) (data : List Nat) (j lo m : Nat) (hm : m = data.length - lo) (hlo : lo = min (j * size) data.length) :
    List.take 0 (List.replicate size 0) ++ (data.drop lo).take size ++ (List.replicate size 0).drop (0 + min m size) = dsh size data j := by
  have h1 : data.drop lo = data.drop (j * size) := by
    by_cases h : j * size ≤ data.length
    · rw [hlo, Nat.min_eq_left h]
    · rw [List.drop_eq_nil_of_le (by omega), List.drop_eq_nil_of_le (by omega)]
  rw [h1]
  unfold dsh ext
  simp
  congr 1
  omega
/- a slice from lo on -/
theorem slice_from {w : World} {a : Option Addr} {n c lo : Nat} {l : List Nat} (h : Sln w a n l) (hlo : lo ≤ n) (hc : n ≤ c) : Sln w (if c = lo then a else a.map (·.add lo)) (n - lo) (l.drop lo) := by
  have e := h.len
  refine ⟨by simp; omega, fun x hx => h.lt x (List.mem_of_mem_drop hx), by have := h.sli.2.1; simp; omega, ?_⟩
  by_cases h0 : l.drop lo = []
  · exact .inl h0
  · right
    have h1 : lo < l.length := by
      have : ¬ l.length ≤ lo := fun hh => h0 (List.drop_eq_nil_of_le hh)
      omega
    obtain ⟨b, off, rfl, hl, hr⟩ := h.sli.2.2.resolve_left (by intro hh; rw [hh] at h1; simp at h1)
    rw [if_neg (by omega)]
    refine ⟨b, off + lo, by simp [Addr.add], hl, fun i hi => ?_⟩
    have h2 := hr (lo + i) (by simp at hi; omega)
    have h3 : (l.drop lo).getD i 0 = l.getD (lo + i) 0 := by simp [List.getD]
    rw [h3, Nat.add_assoc]
    exact h2
set_option maxHeartbeats 1000000 in
theorem split_any (k size n c : Nat) (a : Option Addr) (data : List Nat) (w : World) (hk : 1 ≤ k) (hk2 : k ≤ 16) (hsz : size ≤ 1100) (hn : n ≤ 1024) (S : Hid (Sln w a n data)) (hc : n ≤ c) (hc2 : c ≤ 140737488351232) :
    Calls Tryd.prog 27 #[.int .i64 (k : Int), .int .i64 (size : Int), .slice a n c] w fun e w' => ∃ g bs, e = .returned (.slice (some ⟨g, 0, none⟩) k k) ∧ Hid (g = w.heap.size ∧ VBlk w' g (bs.map (sv size)) ∧ Shs w' bs size ((List.range k).map (dsh size data)) ∧ (∀ b ∈ bs, g < b) ∧ Below w.heap.size w w') := by
  have mk1 := make_rows k (by omega)
  have mk2 := make_bytes size (by omega)
  obtain ⟨g, Hg⟩ : ∃ g, Hid (w.heap.size = g) := ⟨_, rfl⟩
  go_enter Tryd.func27, Tryd.ntmps27
  go_wp2
  rw [Hg.out]
  go_loopw [13] (fun ti wr => ∃ j : Nat, j ≤ k ∧ ti = .int .i64 j ∧ Hid (∃ bs, VBlk wr g (bs.map (sv size) ++ List.replicate (k - j) (.slice none 0 0)) ∧ Shs wr bs size ((List.range j).map (dsh size data)) ∧ (∀ b ∈ bs, g < b) ∧ Below g w wr)) (fun ti _ => k - (intOf ti).toNat)
  case atStart =>
    exact ⟨0, by omega, rfl, [], by rw [← Hg.out]; exact VBlk.made w k, Shs.nil _ _, by simp, by rw [← Hg.out]; exact (Below.refl _ _).alloc (Nat.le_refl _) _⟩
  case round =>
    obtain ⟨j, hj, rfl, HJ⟩ := hrel
    by_cases hlt : j < k
    · obtain ⟨bs, hv, hs, hb, hbel⟩ := HJ.out
      have hjl : bs.length = j := by have := hs.len; simpa using this
      have bA : ∀ o, Below wr.heap.size wr (wr.alloc o) := fun o => (Below.refl wr.heap.size wr).alloc (Nat.le_refl _) o
      have f1 : ∀ o, (wr.alloc o).frozen? ⟨g, j, none⟩ = false := fun o => (hv.below (bA o) hv.lt).frozen j
      have c1 : ∀ o, (wr.alloc o).cell? ⟨g, j, none⟩ = some (.slice none 0 0) := fun o => by
        rw [(hv.below (bA o) hv.lt).cell j, List.getElem?_append_right (by simp [hjl])]
        rw [List.getElem?_replicate, if_pos (by simp [hjl]; omega)]
      have i1 : (j : Int) < (k : Int) := by omega
      have B2 : Blk ((wr.alloc (.cells (madeCells #[.int .u8 0] size) 5)).setCell ⟨g, j, none⟩ (.slice (some ⟨wr.heap.size, 0, none⟩) size size)) wr.heap.size (List.replicate size 0) :=
        (Blk.made wr size).oth ((Oth.refl g _).setCell j _) (by have := hv.lt; omega)
      have O2 : Oth g (wr.alloc (.cells (madeCells #[.int .u8 0] size) 5)) ((wr.alloc (.cells (madeCells #[.int .u8 0] size) 5)).setCell ⟨g, j, none⟩ (.slice (some ⟨wr.heap.size, 0, none⟩) size size)) := (Oth.refl g _).setCell j _
      have V2 : VBlk ((wr.alloc (.cells (madeCells #[.int .u8 0] size) 5)).setCell ⟨g, j, none⟩ (.slice (some ⟨wr.heap.size, 0, none⟩) size size)) g ((bs ++ [wr.heap.size]).map (sv size) ++ List.replicate (k - (j + 1)) (.slice none 0 0)) := by
        have h1 := (hv.below (bA (.cells (madeCells #[.int .u8 0] size) 5)) hv.lt).set j (.slice (some ⟨wr.heap.size, 0, none⟩) size size)
        have h2 : (bs.map (sv size) ++ List.replicate (k - j) (Value.slice none 0 0)).set j (.slice (some ⟨wr.heap.size, 0, none⟩) size size) = (bs ++ [wr.heap.size]).map (sv size) ++ List.replicate (k - (j + 1)) (.slice none 0 0) := by
          have h3 : k - j = (k - (j + 1)) + 1 := by omega
          rw [h3, List.replicate_succ, List.set_append_right _ _ (by simp [hjl])]
          simp [hjl]
        rw [h2] at h1
        exact h1
      have S2 : Shs ((wr.alloc (.cells (madeCells #[.int .u8 0] size) 5)).setCell ⟨g, j, none⟩ (.slice (some ⟨wr.heap.size, 0, none⟩) size size)) bs size ((List.range j).map (dsh size data)) :=
        (hs.below (bA _)).to fun b hm => O2.block b (by have := hb b hm; omega)
      have L2 : Below g w ((wr.alloc (.cells (madeCells #[.int .u8 0] size) 5)).setCell ⟨g, j, none⟩ (.slice (some ⟨wr.heap.size, 0, none⟩) size size)) :=
        O2.below (hbel.alloc (by have := hv.lt; omega) _) (Nat.le_refl _)
      have hwr : g < wr.heap.size := hv.lt
      have G2 : Hid (wr.heap.size ∉ bs ∧ g < wr.heap.size) := ⟨fun hm => by have := hs.mem hm; omega, hwr⟩
      clear HJ hv hs hbel bA O2 hwr
      go_wp2
      obtain ⟨w2, hw2⟩ : ∃ w2, w2 = (wr.alloc (.cells (madeCells #[.int .u8 0] size) 5)).setCell ⟨g, j, none⟩ (.slice (some ⟨wr.heap.size, 0, none⟩) size size) := ⟨_, rfl⟩
      rw [← hw2] at B2 V2 S2 L2 ⊢
      obtain ⟨q, hq⟩ : ∃ q, q = wr.heap.size := ⟨_, rfl⟩
      rw [← hq] at B2 V2 G2 ⊢
      clear hw2 hq f1 c1
      obtain ⟨p, hp⟩ : ∃ p, p = j * size := ⟨_, rfl⟩
      have hp1 : (j : Int) * (size : Int) = (p : Int) := by rw [hp]; simp
      have hp2 : p ≤ 17600 := by rw [hp]; exact Nat.le_trans (Nat.mul_le_mul (by omega : j ≤ 16) hsz) (by omega)
      obtain ⟨lo, hlo⟩ : ∃ lo, lo = min p n := ⟨_, rfl⟩
      have hlo1 : lo ≤ n := by omega
      have SD : Sln w2 a n data := by have h := S.out.below (by rw [Hg.out]; exact L2); exact h
      have hdl : n = data.length := SD.len
      obtain ⟨w3, hcp, B3, O3⟩ := copy_at w2.drew q 0 size size (n - lo) (c - lo) _ (List.replicate size 0) (data.drop lo) B2 (by simp) (slice_from SD.drew hlo1 hc)
      rw [copied_dsh size data j lo (n - lo) (by omega) (by rw [hlo, hp, ← hdl])] at B3
      have c2 : w2.cell? ⟨g, j, none⟩ = some (.slice (some ⟨q, 0, none⟩) size size) := by
        rw [V2.cell j, List.getElem?_append_left (by simp [hjl])]
        simp [hjl]
      have F3 : Hid (∃ bs', VBlk w3 g (bs'.map (sv size) ++ List.replicate (k - (j + 1)) (.slice none 0 0)) ∧ Shs w3 bs' size ((List.range (j + 1)).map (dsh size data)) ∧ (∀ b ∈ bs', g < b) ∧ Below g w w3) := by
        have g2 := G2.out
        refine ⟨bs ++ [q], VBlk.oth (w := w2.drew) V2 O3 (by omega), ?_, ?_, O3.below L2.drew (by omega)⟩
        · have h1 := (S2.to (w' := w3) fun b hm => O3.block (w := w2.drew) b (fun e => g2.1 (e ▸ hm))).snoc B3 (dsh_length _ _ _) (dsh_lt SD.lt _) g2.1
          rw [List.range_succ, List.map_append]
          exact h1
        · intro b hm
          rcases List.mem_append.1 hm with h | h
          · exact hb b h
          · simp at h; omega
      clear S2 V2 B2 B3 O3 L2 G2 SD hdl hp hjl hb
      have CP : Hid (∀ a', a' = (if c = lo then a else a.map (·.add lo)) → (Builtin.copy_ #[33, 33] 3 #[.slice (some ⟨q, 0, none⟩) size size, .slice a' (n - lo) (c - lo)]).run Tryd.prog w2.drew = .ok (goInt (min (n - lo) size : Nat)) w3) := by
        intro a' ha'; rw [ha']; exact hcp
      clear hcp
      go_still_tail 12, (by kernel_rfl)
      have hw : IntKind.i64.wrap (p : Int) = (p : Int) := by rw [IntKind.wrap_i64]; omega
      have hlz : (if (n : Int) < (p : Int) then (n : Int) else (p : Int)) = (lo : Int) := by split <;> omega
      rw [hw, hlz]
      clear hw hlz hlo
      still_step
      refine wpStill_nil ?_
      obtain ⟨a', ha'⟩ : ∃ a', a' = (if c = lo then a else Option.map (fun x => x.add lo) a) := ⟨_, rfl⟩
      rw [← ha']
      have cp := CP.out a' ha'
      generalize hw4 : ({ heap := w2.heap, tape := w2.tape, drawn := w2.drawn + 1, os := w2.os, output := w2.output } : World) = w4
      have hw5 : w2.drew = w4 := hw4
      rw [hw5] at cp
      clear hw4 hw5 ha' CP c2 hp1
      go_wp2
      go_roundw
      case rel => exact ⟨j + 1, by omega, by go_num, F3.out⟩
      case measure => simp [intOf]; omega
    · have e : j = k := by omega
      obtain ⟨bs, hv, hs, hb, hbel⟩ := HJ.out
      have FIN : Hid (g = w.heap.size ∧ VBlk wr g (bs.map (sv size)) ∧ Shs wr bs size ((List.range k).map (dsh size data)) ∧ (∀ b ∈ bs, g < b) ∧ Below w.heap.size w wr) := by
        subst e
        refine ⟨Hg.out.symm, by simpa using hv, hs, hb, by rw [Hg.out]; exact hbel⟩
      clear hv hs hb hbel HJ
      go_wp2
      go_ret
      exact ⟨g, bs, rfl, FIN.out⟩
end Go.Proofs.YtokkjdgfhpocdaaDoor
