/- What AddScaled, Sum and Scale of package gf do, for all lists: they return a new row with the sum place by place, and change nothing that was there. -/
import Derived.Test.YtokkjdgfhpocdaaDoorWh
namespace Go.Proofs.YtokkjdgfhpocdaaDoor
open Go.ChangeShapes Go.WideShapes Go.ChangeAt Go.RowKit
set_option linter.unusedVariables false
set_option linter.unusedSimpArgs false
def ext (l : List Nat) (n : Nat) : List Nat := l ++ List.replicate (n - l.length) 0
theorem ext_length (l : List Nat) (n : Nat) (h : l.length ≤ n) : (ext l n).length = n := by simp [ext]; omega
theorem ext_lt {l : List Nat} (h : ∀ x ∈ l, x < 256) (n : Nat) : ∀ x ∈ ext l n, x < 256 := by
  intro x hx
  rcases List.mem_append.1 hx with h1 | h1
  · exact h x h1
  · have := List.eq_of_mem_replicate h1; omega
def addSc (a : List Nat) (c : Nat) (b : List Nat) : List Nat := mixN c (ext a (max a.length b.length)) b b.length
theorem splice_ext (l : List Nat) (n : Nat) (h : l.length ≤ n) : splice ((List.replicate n 0).map bv) 0 (l.map bv) = (ext l n).map bv := by
  simp [splice, ext, List.drop_replicate]
theorem info5 : (Tryd.prog.info? 5).map (fun i => (i.zero, i.size, i.bytes)) = some (some (.int .u8 0), 1, 1) := by kernel_rfl
theorem size5 : (Tryd.prog.info? 5).map (·.size) = some 1 := by kernel_rfl
theorem make_bytes (n : Nat) (h : n ≤ 281474976710656) (w : World) : (Instr.makeSlice 33 (.int .i64 (n : Int)) (.int .i64 (n : Int))).run Tryd.prog w = .ok (.slice (some ⟨w.heap.size, 0, none⟩) n n) (w.alloc (.cells (madeCells #[.int .u8 0] n) 5)) := by
  obtain ⟨i, hi, hz0, hz1, hz2⟩ := info_parts info5
  have hr := run_make (P := Tryd.prog) w 33 5 i (.int .u8 0) Tryd.underlying33 hi hz0 .i64 .i64 n n (by omega) (by omega) (by rw [hz2]; omega) (by omega)
  rw [hz1] at hr
  simpa [Value.cells] using hr
theorem kern_boxed (w w1 : World) (g n c : Nat) (M l : List Nat) (a : Option Addr) (cb : Nat) (hc : c < 256) (hM : Blk w1 g M) (hMb : ∀ x ∈ M, x < 256) (hn : n = M.length) (hm : n ≤ 140737488351232) (hs : Sli w a l) (hle : l.length ≤ n) (hb : Below w.heap.size w w1) (hg : w.heap.size ≤ g) :
    Calls Tryd.prog 47 #[.slice (some ⟨g, 0, none⟩) n n, .slice a l.length cb, .pointer (some ⟨w1.heap.size, 0, none⟩)] (w1.alloc (.cells #[.int .u8 (c : Int)] 5)) fun e w' => e = .returned (.tuple #[]) ∧ Blk w' g (mixN c M l l.length) ∧ Below w.heap.size w w' := by
  have hb2 : Below w.heap.size w (w1.alloc (.cells #[.int .u8 (c : Int)] 5)) := hb.alloc hb.size _
  refine (kern_any g n c w1.heap.size M a cb l _ hc (hM.alloc _) hMb hn hm (hs.below hb2) hle (by simp) (by have := hM.lt; omega) ?_).mono ?_
  · intro b off h0 ha
    obtain ⟨b', off', h1, hl, _⟩ := hs.2.2.resolve_left h0
    rw [h1] at ha; simp at ha; omega
  · rintro e w' ⟨rfl, h1, h2⟩
    exact ⟨rfl, h1, h2.below hb2 hg⟩
theorem copy_mine (w : World) (n n1 : Nat) (a1 : Option Addr) (k1 : Nat) (l1 : List Nat) (S1 : Hid (Sli w a1 l1)) (H1 : Hid (n1 = l1.length)) (hle : n1 ≤ n) :
    ∃ w1, (Builtin.copy_ #[33, 33] 3 #[.slice (some ⟨w.heap.size, 0, none⟩) n n, .slice a1 n1 k1]).run Tryd.prog (w.alloc (.cells (madeCells #[.int .u8 0] n) 5)) = .ok (goInt n1) w1 ∧ Hid (Blk w1 w.heap.size (ext l1 n)) ∧ Hid (Below w.heap.size w w1) := by
  have e1 := H1.out
  have hbl : Below w.heap.size w (w.alloc (.cells (madeCells #[.int .u8 0] n) 5)) := (Below.refl _ _).alloc (Nat.le_refl _) _
  by_cases h0 : l1 = []
  · subst h0
    have e0 : n1 = 0 := e1
    subst e0
    refine ⟨_, run_copy_none (P := Tryd.prog) _ 33 33 3 5 _ a1 n n 0 k1 Tryd.underlying33 size5 (by simp [Nat.min_def]), ?_, hbl⟩
    have h9 := Blk.made w n
    have h10 : ext [] n = List.replicate n 0 := by simp [ext]
    rw [h10]
    exact h9
  · obtain ⟨b, off, rfl, hl, hr⟩ := S1.out.2.2.resolve_left h0
    have hcs : (l1.map bv).length = n1 := by simp [e1]
    have hrun := run_copy_row (P := Tryd.prog) (w.alloc (.cells (madeCells #[.int .u8 0] n) 5)) 33 33 3 5 w.heap.size 0 n n ⟨b, off, none⟩ n1 k1 _ 5 (l1.map bv) Tryd.underlying33 size5 (Blk.made w n)
      (by simp [← e1, Nat.min_def]; omega) (fun j v hv => by
        simp at hv
        obtain ⟨x, hx, rfl⟩ := hv
        obtain ⟨hj, hx2⟩ := List.getElem?_eq_some_iff.1 hx
        have h4 := hr j hj
        have h5 : l1.getD j 0 = x := by simp [hx]
        rw [h5] at h4
        have h6 := hbl.cell (p := ⟨b, off + j, none⟩) hl
        rw [h4] at h6
        rw [show (⟨b, off, none⟩ : Addr).add j = ⟨b, off + j, none⟩ from by simp [Addr.add]]
        exact h6) (by simp [← e1]; omega) (fun v hv => by
        obtain ⟨x, _, rfl⟩ := List.mem_map.1 hv
        rfl)
    rw [hcs] at hrun
    refine ⟨_, hrun, ?_, below_setRow hbl (Nat.le_refl _) _⟩
    have h7 := setRow_heap (w.alloc (.cells (madeCells #[.int .u8 0] n) 5)) w.heap.size _ ((((List.replicate n 0).map bv).toArray.toList.take 0 ++ l1.map bv ++ ((List.replicate n 0).map bv).toArray.toList.drop (0 + n1)).toArray) 5 (0, 0) (Blk.made w n)
    refine h7.trans ?_
    have h8 := splice_ext l1 n (by omega)
    unfold splice at h8
    rw [← h8, e1]
    simp
set_option maxHeartbeats 1000000 in
theorem addScaled_any (a1 a2 : Option Addr) (k1 k2 c : Nat) (l1 l2 : List Nat) (w : World) (hc : c < 256) (h1 : Sli w a1 l1) (h2 : Sli w a2 l2) :
    Calls Tryd.prog 37 #[.slice a1 l1.length k1, .int .u8 (c : Int), .slice a2 l2.length k2] w fun e w' => ∃ n, n = max l1.length l2.length ∧ e = .returned (.slice (some ⟨w.heap.size, 0, none⟩) n n) ∧ Blk w' w.heap.size (addSc l1 c l2) ∧ Below w.heap.size w w' := by
  have m1 := h1.2.1
  have m2 := h2.2.1
  obtain ⟨n1, hn1⟩ : ∃ n, n = l1.length := ⟨_, rfl⟩
  obtain ⟨n2, hn2⟩ : ∃ n, n = l2.length := ⟨_, rfl⟩
  rw [← hn1] at m1 ⊢; rw [← hn2] at m2 ⊢
  have H1 : Hid (n1 = l1.length) := hn1
  have H2 : Hid (n2 = l2.length) := hn2
  have S1 : Hid (Sli w a1 l1) := h1
  have S2 : Hid (Sli w a2 l2) := h2
  clear hn1 hn2 h1 h2
  have mk1 := make_bytes n1 (by omega)
  have mk2 := make_bytes n2 (by omega)
  have kb : ∀ (n : Nat) (w1 : World), n = max n1 n2 → Hid (Blk w1 w.heap.size (ext l1 n)) → Hid (Below w.heap.size w w1) → Calls Tryd.prog 47 #[.slice (some ⟨w.heap.size, 0, none⟩) n n, .slice a2 n2 k2, .pointer (some ⟨w1.heap.size, 0, none⟩)] (w1.alloc (.cells #[.int .u8 (c : Int)] 5)) fun e w' => e = .returned (.tuple #[]) ∧ Blk w' w.heap.size (addSc l1 c l2) ∧ Below w.heap.size w w' := by
    intro n w1 hn hB hb
    have e1 := H1.out
    have e2 := H2.out
    have hmx : max l1.length l2.length = n := by rw [← e1, ← e2, hn]
    have h := kern_boxed w w1 w.heap.size n c (ext l1 n) l2 a2 k2 hc hB.out (ext_lt S1.out.1 n) (ext_length l1 n (by omega)).symm (by omega) S2.out (by omega) hb.out (Nat.le_refl _)
    unfold addSc
    rw [hmx, ← e2] at *
    exact h
  have KB : Hid _ := kb
  clear kb
  by_cases hle : n1 < n2
  · obtain ⟨w1, hcp, hB, hbel⟩ := copy_mine w n2 n1 a1 k1 l1 S1 H1 (by omega)
    go_enter Tryd.func37, Tryd.ntmps37
    go_wp2_with (first | (go_at_call 47; refine (KB.out n2 w1 (by omega) hB hbel).mono ?_; rintro e w' ⟨rfl, hb2, hbel2⟩) | go_in)
    go_ret
    exact ⟨n2, by omega, rfl, hb2, hbel2⟩
  · obtain ⟨w1, hcp, hB, hbel⟩ := copy_mine w n1 n1 a1 k1 l1 S1 H1 (by omega)
    go_enter Tryd.func37, Tryd.ntmps37
    go_wp2_with (first | (go_at_call 47; refine (KB.out n1 w1 (by omega) hB hbel).mono ?_; rintro e w' ⟨rfl, hb2, hbel2⟩) | go_in)
    go_ret
    exact ⟨n1, by omega, rfl, hb2, hbel2⟩
end Go.Proofs.YtokkjdgfhpocdaaDoor
