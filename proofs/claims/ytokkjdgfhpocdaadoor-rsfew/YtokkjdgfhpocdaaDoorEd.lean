/- Lists of shards in memory; what enough and rowOf of package rs do. -/
import Derived.Test.YtokkjdgfhpocdaaDoorEc
import Derived.Deep.DeepCutAuto
namespace Go.Proofs.YtokkjdgfhpocdaaDoor
open Go.ChangeShapes Go.WideShapes Go.ChangeAt Go.RowKit
set_option linter.unusedVariables false
set_option linter.unusedSimpArgs false
set_option linter.unnecessarySimpa false
def nu (L : List (Int × List Nat)) (i : Nat) : Int := (L.getD i (0, [])).1
def by_ (L : List (Int × List Nat)) (i : Nat) : List Nat := (L.getD i (0, [])).2
/- a slice of n shards that reads as L -/
structure Shd (w : World) (a : Option Addr) (n : Nat) (L : List (Int × List Nat)) : Prop where
  len : n = L.length
  cap : n ≤ 140737488351232
  at_ : n = 0 ∨ ∃ b off, a = some ⟨b, off, none⟩ ∧ ∀ i, i < n → w.cell? ⟨b, off + i * 2, none⟩ = some (.int .i64 (nu L i)) ∧ ∃ a m c, w.cell? ⟨b, off + i * 2 + 1, none⟩ = some (.slice a m c) ∧ Sln w a m (by_ L i) ∧ m ≤ c ∧ c ≤ 140737488351232 ∧ (a = none → c = 0)
  wf : ∀ i, i < n → (Lit.int .i64 (nu L i)).wf = true
theorem Shd.below {w w' : World} {a : Option Addr} {n : Nat} {L : List (Int × List Nat)} (h : Shd w a n L) (hb : Below w.heap.size w w') : Shd w' a n L := by
  refine ⟨h.len, h.cap, ?_, h.wf⟩
  rcases h.at_ with h0 | ⟨b, off, h1, h2⟩
  · exact .inl h0
  · refine .inr ⟨b, off, h1, fun i hi => ?_⟩
    obtain ⟨c0, a', m, c, c1, s, r⟩ := h2 i hi
    exact ⟨(hb.cell (p := ⟨b, off + i * 2, none⟩) (cell_lt' c0)).trans c0, a', m, c, (hb.cell (p := ⟨b, off + i * 2 + 1, none⟩) (cell_lt' c1)).trans c1, s.below hb, r⟩
/- are they k shards of that size? -/
def OkAt (M size : Nat) (L : List (Int × List Nat)) (i : Nat) : Prop := (0 ≤ nu L i ∧ nu L i < M) ∧ (by_ L i).length = size ∧ ∀ j, j < i → nu L j ≠ nu L i
def GoodL (M size : Nat) (L : List (Int × List Nat)) : Prop := ∀ i, i < L.length → OkAt M size L i
/- a block of bools -/
def BBlk (w : World) (g N : Nat) (f : Nat → Bool) : Prop := w.heap[g]? = some (.cells ((List.range N).map fun x => Value.bool (f x)).toArray 4 (0, 0))
theorem BBlk.cell {w : World} {g N : Nat} {f : Nat → Bool} (h : BBlk w g N f) (i : Nat) (hi : i < N) : w.cell? ⟨g, i, none⟩ = some (.bool (f i)) := by
  unfold BBlk at h
  simp [World.cell?, h, hi]
theorem BBlk.frozen {w : World} {g N : Nat} {f : Nat → Bool} (h : BBlk w g N f) (i : Nat) : w.frozen? ⟨g, i, none⟩ = false := by
  unfold BBlk at h
  simp [World.frozen?, h]
theorem BBlk.lt {w : World} {g N : Nat} {f : Nat → Bool} (h : BBlk w g N f) : g < w.heap.size := (Array.getElem?_eq_some_iff.1 h).1
theorem BBlk.below {B : Nat} {w w' : World} {g N : Nat} {f : Nat → Bool} (h : BBlk w g N f) (hb : Below B w w') (hg : g < B) : BBlk w' g N f := (hb.block g hg).trans h
theorem BBlk.set {w : World} {g N : Nat} {f : Nat → Bool} (h : BBlk w g N f) (i : Nat) (b : Bool) : BBlk (w.setCell ⟨g, i, none⟩ (.bool b)) g N (fun x => if x = i then b else f x) := by
  have h0 : w.heap[g]? = some (.cells ((List.range N).map fun x => Value.bool (f x)).toArray 4 (0, 0)) := h
  rw [setCell_eq_setRow w g i _ 4 (0, 0) _ h0]
  have h1 := setRow_heap w g _ (((List.range N).map fun x => Value.bool (f x)).toArray.setIfInBounds i (.bool b)) 4 (0, 0) h0
  unfold BBlk
  rw [h1]
  congr 2
  apply Array.ext
  · simp
  · intro j h2 h3
    simp at h2
    rw [Array.getElem_setIfInBounds (by simpa using h2)]
    by_cases hij : i = j
    · subst hij; simp
    · have : ¬ j = i := fun e => hij e.symm
      simp [hij, this]
theorem info4 : (Tryd.prog.info? 4).map (fun i => (i.zero, i.size, i.bytes)) = some (some (.bool false), 1, 1) := by kernel_rfl
theorem make_bools (n : Nat) (z : Int) (hz : z = n) (h : n ≤ 1000000) (w : World) : (Instr.makeSlice 75 (.int .i64 z) (.int .i64 z)).run Tryd.prog w = .ok (.slice (some ⟨w.heap.size, 0, none⟩) n n) (w.alloc (.cells (madeCells #[.bool false] n) 4)) := by
  subst hz
  obtain ⟨i, hi, hz0, hz1, hz2⟩ := info_parts info4
  have hr := run_make (P := Tryd.prog) w 75 4 i (.bool false) Tryd.underlying75 hi hz0 .i64 .i64 n n (by omega) (by omega) (by rw [hz2]; omega) (by omega)
  rw [hz1] at hr
  simpa [Value.cells] using hr
theorem BBlk.made (w : World) (n : Nat) : BBlk (w.alloc (.cells (madeCells #[.bool false] n) 4)) w.heap.size n (fun _ => false) := by
  have e : madeCells #[Value.bool false] n = ((List.range n).map fun x => Value.bool false).toArray := by
    apply Array.ext
    · simp [madeCells]
    · intro i h1 h2
      simp [madeCells, Nat.mod_one]
  rw [e]
  show (w.heap.push _)[w.heap.size]? = _
  simp
theorem isShard_t (k m : Nat) (x : Nat) (hx : x < k + m) (h3 : k + m ≤ 16) (w : World) :
    Calls Tryd.prog 35 #[.int .i64 (k : Int), .int .i64 (m : Int), .int .i64 (x : Int)] w fun e w' => e = .returned (.bool true) ∧ w' = w := by
  have i2 : (x : Int) < (k : Int) + (m : Int) := by omega
  go_enter Tryd.func35, Tryd.ntmps35
  go_wp2
  go_ret
  exact ⟨rfl, rfl⟩
def EnP (n k M size : Nat) (L : List (Int × List Nat)) (w : World) (e : Ending) (w' : World) : Prop := ∃ r : Bool, e = .returned (.bool r) ∧ Hid ((r = true ↔ n = k ∧ GoodL M size L) ∧ Below w.heap.size w w')
theorem isShard_f (k m : Nat) (z : Int) (hz : (Lit.int .i64 z).wf = true) (h : ¬ (0 ≤ z ∧ z < (k : Int) + m)) (h3 : k + m ≤ 16) (w : World) :
    Calls Tryd.prog 35 #[.int .i64 (k : Int), .int .i64 (m : Int), .int .i64 z] w fun e w' => e = .returned (.bool false) ∧ w' = w := by
  have h0 := isShard_any k m z hz h3 w
  have e : decide (0 ≤ z ∧ z < (k : Int) + m) = false := by simp only [decide_eq_false_iff_not]; exact h
  rw [e] at h0
  exact h0
set_option maxRecDepth 20000 in
set_option maxHeartbeats 1000000 in
theorem enough_any (k m size n c : Nat) (a : Option Addr) (L : List (Int × List Nat)) (w : World) (h2 : 1 ≤ k) (h3 : k + m ≤ 16) (hsz : size ≤ 1100) (S : Hid (Shd w a n L)) :
    Calls Tryd.prog 32 #[.int .i64 (k : Int), .int .i64 (m : Int), .int .i64 (size : Int), .slice a n c] w fun e w' => EnP n k (k + m) size L w e w' := by
  by_cases hk : n = k
  · subst hk
    have mk := make_bools (n + m) ((n : Int) + (m : Int)) (by simp) (by omega)
    obtain ⟨b, off, rfl, S2⟩ : ∃ b off, a = some ⟨b, off, none⟩ ∧ Hid (Shd w (some ⟨b, off, none⟩) n L) := by
      rcases S.out.at_ with h0 | ⟨b, off, h1, _⟩
      · omega
      · exact ⟨b, off, h1, h1 ▸ S.out⟩
    obtain ⟨g, Hg⟩ : ∃ g, Hid (w.heap.size = g) := ⟨_, rfl⟩
    go_enter Tryd.func32, Tryd.ntmps32
    go_wp2
    rw [Hg.out]
    go_loopw [22] (fun ti wr => ∃ i : Nat, i ≤ n ∧ ti = .int .i64 i ∧ Hid ((∀ j, j < i → OkAt (n + m) size L j) ∧ BBlk wr g (n + m) (fun x => decide (∃ j, j < i ∧ nu L j = (x : Int))) ∧ Below g w wr)) (fun ti _ => n - (intOf ti).toNat)
    case atStart => exact ⟨0, by omega, rfl, fun j hj => by omega, by rw [← Hg.out]; simpa using BBlk.made w (n + m), by rw [← Hg.out]; exact (Below.refl _ _).alloc (Nat.le_refl _) _⟩
    case round =>
      obtain ⟨i, hi, rfl, HI⟩ := hrel
      by_cases hlt : i < n
      · have SW : Shd wr (some ⟨b, off, none⟩) n L := S2.out.below (by rw [Hg.out]; exact HI.out.2.2)
        obtain ⟨b', off', e1, hc⟩ := SW.at_.resolve_left (by omega)
        simp at e1
        obtain ⟨rfl, rfl⟩ := e1
        obtain ⟨c0, a1, m1, cc, c1, s1, hmc, hcc, _⟩ := hc i hlt
        have wfn := SW.wf i hlt
        obtain ⟨z, Hz⟩ : ∃ z, Hid (nu L i = z) := ⟨_, rfl⟩
        rw [Hz.out] at c0 wfn
        have HM : Hid (m1 = (by_ L i).length) := s1.len
        have i1 : (i : Int) < (n : Int) := by omega
        have m2 : m1 ≤ 140737488351232 := by omega
        have HLn : Hid (n = L.length) := SW.len
        clear hc SW s1
        obtain ⟨w1, hw1⟩ : ∃ w1, w1 = wr.alloc (.cells #[.int .i64 z, .slice a1 m1 cc] 54) := ⟨_, rfl⟩
        have d0 : w1.cell? ⟨wr.heap.size, 0, none⟩ = some (.int .i64 z) := by rw [hw1]; simp
        have d1 : w1.cell? ⟨wr.heap.size, 1, none⟩ = some (.slice a1 m1 cc) := by rw [hw1]; simp
        have bw : Below wr.heap.size wr w1 := by rw [hw1]; exact (Below.refl _ _).alloc (Nat.le_refl _) _
        have B1 : BBlk w1 g (n + m) (fun x => decide (∃ j, j < i ∧ nu L j = (x : Int))) := HI.out.2.1.below bw HI.out.2.1.lt
        have L1 : Hid (Below g w w1) := by rw [hw1]; exact HI.out.2.2.alloc (by have := HI.out.2.1.lt; omega) _
        have OK1 : Hid (∀ j, j < i → OkAt (n + m) size L j) := HI.out.1
        have bad : ¬ OkAt (n + m) size L i → Hid ((false = true ↔ n = n ∧ GoodL (n + m) size L) ∧ Below w.heap.size w w1) := fun hb => ⟨⟨fun h => (by cases h), fun h => absurd (h.2 i (by rw [← HLn.out]; exact hlt)) hb⟩, by rw [Hg.out]; exact L1.out⟩
        clear HI bw
        go_upto_region 7 with (fail)
        rw [← hw1]
        obtain ⟨q, hq⟩ : ∃ q, q = wr.heap.size := ⟨_, rfl⟩
        rw [← hq] at d0 d1 ⊢
        clear hw1 hq c0 c1 mk
        by_cases hin : 0 ≤ z ∧ z < (n : Int) + m
        · obtain ⟨x, rfl⟩ : ∃ x : Nat, z = (x : Int) := ⟨z.toNat, by omega⟩
          have hx : x < n + m := by omega
          have e1 := B1.cell x hx
          have f1 := B1.frozen x
          have i2 : (x : Int) < (n : Int) + (m : Int) := by omega
          have i3 : (x : Int) < ((n + m : Nat) : Int) := by omega
          by_cases hse : ∃ j, j < i ∧ nu L j = (x : Int)
          · have t : decide (∃ j, j < i ∧ nu L j = (x : Int)) = true := by simp only [decide_eq_true_eq]; exact hse
            rw [t] at e1
            have BAD := bad (fun h => by obtain ⟨j, hj, hj2⟩ := hse; exact h.2.2 j hj (by rw [hj2, Hz.out]))
            clear bad B1 t hse hin
            go_wp2_with (go_at_call 35; refine (isShard_t n m x hx h3 _).mono ?_; rintro e w0 ⟨rfl, h0⟩; rw [h0]; clear h0)
            go_ret
            exact ⟨false, rfl, by simpa using BAD.out.1, BAD.out.2⟩
          · have t : decide (∃ j, j < i ∧ nu L j = (x : Int)) = false := by simp only [decide_eq_false_iff_not]; exact hse
            rw [t] at e1
            by_cases hl : m1 = size
            · have FIN : Hid ((∀ j, j < i + 1 → OkAt (n + m) size L j) ∧ BBlk (w1.setCell ⟨g, x, none⟩ (.bool true)) g (n + m) (fun y => decide (∃ j, j < i + 1 ∧ nu L j = (y : Int))) ∧ Below g w (w1.setCell ⟨g, x, none⟩ (.bool true))) := by
                refine ⟨fun j hj => ?_, ?_, ?_⟩
                · by_cases hji : j < i
                  · exact OK1.out j hji
                  · have : j = i := by omega
                    subst this
                    exact ⟨by rw [Hz.out]; omega, by rw [← HM.out]; exact hl, fun j' hj' h => hse ⟨j', hj', by rw [h, Hz.out]⟩⟩
                · have h5 := B1.set x true
                  have h6 : (fun (y : Nat) => if y = x then true else decide (∃ j, j < i ∧ nu L j = (y : Int))) = fun (y : Nat) => decide (∃ j, j < i + 1 ∧ nu L j = (y : Int)) := by
                    funext y
                    by_cases hy : y = x
                    · subst hy
                      simp only [if_true]
                      symm
                      simp only [decide_eq_true_eq]
                      exact ⟨i, by omega, Hz.out⟩
                    · rw [if_neg hy]
                      apply decide_eq_decide.2
                      constructor
                      · rintro ⟨j, h7, h8⟩; exact ⟨j, by omega, h8⟩
                      · rintro ⟨j, h7, h8⟩
                        by_cases hji : j = i
                        · subst hji; rw [Hz.out] at h8; omega
                        · exact ⟨j, by omega, h8⟩
                  rw [h6] at h5
                  exact h5
                · exact ((Oth.refl g w1).setCell x _).below L1.out (Nat.le_refl _)
              subst hl
              clear bad B1 t hse hin
              go_wp2_with (go_at_call 35; refine (isShard_t n m x hx h3 _).mono ?_; rintro e w0 ⟨rfl, h0⟩; rw [h0]; clear h0)
              go_roundw
              case rel => exact ⟨i + 1, by omega, by go_num, FIN.out⟩
              case measure => simp [intOf]; omega
            · have BAD := bad (fun h => hl (by rw [HM.out]; exact h.2.1))
              have hl2 : ((m1 : Int) == (size : Int)) = false := by simp; omega
              clear bad B1 t hse hin hl
              go_wp2_with (go_at_call 35; refine (isShard_t n m x hx h3 _).mono ?_; rintro e w0 ⟨rfl, h0⟩; rw [h0]; clear h0)
              go_ret
              exact ⟨false, rfl, by simpa using BAD.out.1, BAD.out.2⟩
        · have BAD := bad (fun h => hin (by have := h.1; rw [Hz.out] at this; omega))
          have HIN : Hid (¬ (0 ≤ z ∧ z < (n : Int) + m)) := hin
          clear bad B1 hin
          go_wp2_with (go_at_call 35; refine (isShard_f n m z wfn HIN.out h3 _).mono ?_; rintro e w0 ⟨rfl, h0⟩; rw [h0]; clear h0)
          go_ret
          exact ⟨false, rfl, by simpa using BAD.out.1, BAD.out.2⟩
      · have e : i = n := by omega
        subst e
        have FIN : Hid ((true = true ↔ i = i ∧ GoodL (i + m) size L) ∧ Below w.heap.size w wr) := ⟨⟨fun _ => ⟨rfl, fun j hj => HI.out.1 j (by rw [S2.out.len]; exact hj)⟩, fun _ => rfl⟩, by rw [Hg.out]; exact HI.out.2.2⟩
        clear HI
        go_wp2
        go_ret
        exact ⟨true, rfl, by simpa using FIN.out.1, FIN.out.2⟩
  · have hk2 : ((n : Int) == (k : Int)) = false := by simp; omega
    have hcap := S.out.cap
    have FIN : Hid ((false = true ↔ n = k ∧ GoodL (k + m) size L) ∧ Below w.heap.size w w) := ⟨⟨fun h => (by cases h), fun h => absurd h.1 hk⟩, Below.refl _ _⟩
    clear hk
    go_enter Tryd.func32, Tryd.ntmps32
    go_wp2
    go_ret
    exact ⟨false, rfl, FIN.out⟩
/- the row of a shard -/
def facs (k number : Nat) : List Nat := (List.range k).map (fac k number)
def rowL (k number : Nat) (bytes : List Nat) : List Nat := facs k number ++ bytes
theorem facs_getD {k number j : Nat} (hj : j < k) : (facs k number).getD j 0 = fac k number j := by simp [facs, List.getD, hj]
theorem rowL_length (k number : Nat) (bytes : List Nat) : (rowL k number bytes).length = k + bytes.length := by simp [rowL, facs]
theorem rowL_lt {k number : Nat} {bytes : List Nat} (hk : k ≤ 16) (hn : number < 16) (h : ∀ x ∈ bytes, x < 256) : ∀ x ∈ rowL k number bytes, x < 256 := by
  intro x hx
  rcases List.mem_append.1 hx with h1 | h1
  · simp [facs] at h1
    obtain ⟨j, hj, rfl⟩ := h1
    exact fac_lt _ _ _ hn (by omega)
  · exact h x h1
theorem make_cap (n m : Nat) (z : Int) (hz : z = (n + m : Nat)) (h : n + m ≤ 1000000) (w : World) : (Instr.makeSlice 33 (.int .i64 (n : Int)) (.int .i64 z)).run Tryd.prog w = .ok (.slice (some ⟨w.heap.size, 0, none⟩) n (n + m)) (w.alloc (.cells (madeCells #[.int .u8 0] (n + m)) 5)) := by
  subst hz
  obtain ⟨i, hi, hz0, hz1, hz2⟩ := info_parts info5
  have hr := run_make (P := Tryd.prog) w 33 5 i (.int .u8 0) Tryd.underlying33 hi hz0 .i64 .i64 n (n + m : Nat) (by omega) (by omega) (by rw [hz2]; omega) (by omega)
  rw [hz1, Int.toNat_natCast] at hr
  simpa only [Value.cells, Int.toNat_natCast, Nat.mul_one] using hr
theorem facs_set (k number N j : Nat) (hj : j < k) (hN : k ≤ N) : ((facs k number).take j ++ List.replicate (N - j) 0).set j (fac k number j) = (facs k number).take (j + 1) ++ List.replicate (N - (j + 1)) 0 := by
  have hl : ((facs k number).take j).length = j := by simp [facs]; omega
  have h3 : N - j = (N - (j + 1)) + 1 := by omega
  rw [h3, List.replicate_succ, List.set_append_right _ _ (by omega), hl, Nat.sub_self, List.set_cons_zero, take_succ_getD (by simp [facs]; omega), facs_getD hj]
  simp
set_option maxRecDepth 20000 in
set_option maxHeartbeats 1000000 in
theorem rowOf_any (k number m c : Nat) (a : Option Addr) (l : List Nat) (w : World) (hk1 : 1 ≤ k) (hk : k ≤ 16) (hn : number < 16) (S : Hid (Sln w a m l)) (hm : m ≤ 1100) (hc : Hid (a = none → c = 0)) :
    Calls Tryd.prog 45 #[.int .i64 (k : Int), .agg #[.int .i64 (number : Int), .slice a m c]] w fun e w' => ∃ g n, e = .returned (.slice (some ⟨g, 0, none⟩) n n) ∧ Hid (n = k + m ∧ w.heap.size ≤ g ∧ Blk w' g (rowL k number l) ∧ Below w.heap.size w w') := by
  have mk := make_cap k m ((k : Int) + (m : Int)) (by simp) (by omega)
  obtain ⟨w0, hw0⟩ : ∃ w0, w0 = (w.alloc (Obj.cells #[Value.int IntKind.i64 (number : Int), Value.slice a m c] 54)).alloc (Obj.cells (madeCells #[Value.int IntKind.u8 0] (k + m)) 5) := ⟨_, rfl⟩
  have B0 : Hid (Blk w0 (w.heap.size + 1) (List.replicate (k + m) 0)) := by
    rw [hw0]
    have h := Blk.made (w.alloc (Obj.cells #[Value.int IntKind.i64 (number : Int), Value.slice a m c] 54)) (k + m)
    have e : (w.alloc (Obj.cells #[Value.int IntKind.i64 (number : Int), Value.slice a m c] 54)).heap.size = w.heap.size + 1 := by simp
    rw [e] at h
    exact h
  have L0 : Hid (Below w.heap.size w w0) := by rw [hw0]; exact ((Below.refl _ _).alloc (Nat.le_refl _) _).alloc (by simp) _
  have x0 : Hid (w0.cell? ⟨w.heap.size, 0, none⟩ = some (.int .i64 (number : Int))) := by
    have h := ((Below.refl (w.heap.size + 1) (w.alloc (Obj.cells #[Value.int IntKind.i64 (number : Int), Value.slice a m c] 54))).alloc (by simp) (Obj.cells (madeCells #[Value.int IntKind.u8 0] (k + m)) 5)).cell (p := ⟨w.heap.size, 0, none⟩) (by simp)
    rw [hw0]; exact h.trans (by simp)
  have x1 : Hid (w0.cell? ⟨w.heap.size, 1, none⟩ = some (.slice a m c)) := by
    have h := ((Below.refl (w.heap.size + 1) (w.alloc (Obj.cells #[Value.int IntKind.i64 (number : Int), Value.slice a m c] 54))).alloc (by simp) (Obj.cells (madeCells #[Value.int IntKind.u8 0] (k + m)) 5)).cell (p := ⟨w.heap.size, 1, none⟩) (by simp)
    rw [hw0]; exact h.trans (by simp)
  obtain ⟨g, Hg⟩ : ∃ g, Hid (w.heap.size + 1 = g) := ⟨_, rfl⟩
  obtain ⟨q, Hq⟩ : ∃ q, Hid (w.heap.size = q) := ⟨_, rfl⟩
  obtain ⟨N, HN⟩ : ∃ N, Hid (k + m = N) := ⟨_, rfl⟩
  have hN : k ≤ N := by rw [← HN.out]; omega
  have hN2 : N ≤ 1116 := by rw [← HN.out]; omega
  rw [Hq.out] at x0 x1
  rw [Hg.out, HN.out] at B0
  go_enter Tryd.func45, Tryd.ntmps45
  go_upto_region 2 with (fail)
  rw [← hw0, Hg.out, HN.out, Hq.out]
  clear hw0 mk
  go_wp2
  go_loopw [16] (fun ti wr => ∃ j : Nat, j ≤ k ∧ ti = .int .i64 j ∧ Hid (Blk wr g ((facs k number).take j ++ List.replicate (N - j) 0) ∧ Oth g w0 wr)) (fun ti _ => k - (intOf ti).toNat)
  case atStart => exact ⟨0, by omega, rfl, by simpa using B0.out, Oth.refl _ _⟩
  case round =>
    obtain ⟨j, hj, rfl, HJ⟩ := hrel
    have hqg : q ≠ g := by have h5 := Hg.out; have h6 := Hq.out; omega
    have y0 : wr.cell? ⟨q, 0, none⟩ = some (.int .i64 (number : Int)) := (HJ.out.2.cell (p := ⟨q, 0, none⟩) hqg).trans x0.out
    have y1 : wr.cell? ⟨q, 1, none⟩ = some (.slice a m c) := (HJ.out.2.cell (p := ⟨q, 1, none⟩) hqg).trans x1.out
    clear hqg
    by_cases hlt : j < k
    · have hll : ((facs k number).take j ++ List.replicate (N - j) 0).length = N := by simp [facs]; omega
      have c1 := HJ.out.1.cell (i := j) (by rw [hll]; omega)
      have f1 := HJ.out.1.frozen j
      have i1 : (j : Int) < (k : Int) := by omega
      have j16 : j < 16 := by omega
      have FIN : Hid (Blk (wr.setCell ⟨g, j, none⟩ (.int .u8 ((fac k number j : Nat) : Int))) g ((facs k number).take (j + 1) ++ List.replicate (N - (j + 1)) 0) ∧ Oth g w0 (wr.setCell ⟨g, j, none⟩ (.int .u8 ((fac k number j : Nat) : Int)))) := by
        refine ⟨?_, HJ.out.2.setCell j _⟩
        rw [← facs_set k number N j hlt hN]
        exact HJ.out.1.set j _
      clear HJ hll
      go_wp2_with (go_at_call 38; refine (factor_any k number j hk hn j16 _).mono ?_; rintro e w9 ⟨rfl, h0⟩; rw [h0]; clear h0)
      go_roundw
      case rel => exact ⟨j + 1, by omega, by go_num, FIN.out⟩
      case measure => simp [intOf]; omega
    · have e : j = k := by omega
      have LW : Below w.heap.size w wr := HJ.out.2.below L0.out (by have h5 := Hg.out; omega)
      have SW := S.out.below LW
      have e8 : (facs k number).take k = facs k number := List.take_of_length_le (by simp [facs])
      have own : wr.ownsRow 0 5 1 (.slice (some ⟨g, 0, none⟩) k N) k ((facs k number).map bv) := by
        refine ⟨by simp [facs], .inr ⟨g, N, _, rfl, Nat.zero_le _, HJ.out.1, hN, by unfold maxLen; omega, by simp [facs]; omega, ?_⟩⟩
        rw [e, e8]
        simp [facs]
      obtain ⟨w3, ap, own3, gr⟩ := app_fits own SW hc.out (by rw [← HN.out]; omega)
      have e9 : k + m = N := HN.out
      rw [e9] at ap own3
      rw [← List.map_append] at own3
      have FIN : Hid (N = k + m ∧ w.heap.size ≤ g ∧ Blk w3 g (rowL k number l) ∧ Below w.heap.size w w3) := by
        refine ⟨HN.out.symm, by have h5 := Hg.out; omega, own_full own3, LW.grown gr LW.size (fun x e => by simp at e; have h5 := Hg.out; omega)⟩
      have AP : Hid ((Builtin.append_ #[33, 33] 33 #[.slice (some ⟨g, 0, none⟩) k N, .slice a m c]).run Tryd.prog wr = .ok (.slice (some ⟨g, 0, none⟩) N N) w3) := ap
      clear ap own3 gr own SW LW e8 e9 HJ
      subst e
      go_wp2_with (at_builtin; refine wpList_app (by rfl) (.tmp 28) (.tmp 30) (by rfl) (by rfl) (by rfl) (by rfl) AP ?_)
      go_ret
      exact ⟨g, N, rfl, FIN.out⟩
end Go.Proofs.YtokkjdgfhpocdaaDoor
