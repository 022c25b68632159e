/- makeBucket (f65) in the empty catalog. -/
import Derived.Test.YtfabnnbljkkihaaGreatDoorLi
namespace Go.Proofs.YtfabnnbljkkihaaGreatDoor
open Go.ChangeShapes Go.WideShapes Go.ChangeAt Go.RowKit
set_option maxRecDepth 20000
set_option linter.unusedVariables false
set_option linter.unusedSimpArgs false
/- a condition that stands till operation z has come up -/
def tillP (z : Nat) (P : World → Prop) (L : Array Bool) (W : World) : Prop := L.getD z false = true ∨ P W
theorem tillP_set {z i : Nat} {P : World → Prop} (h : i ≠ z) {L : Array Bool} {W : World} : tillP z P (L.setIfInBounds i true) W ↔ tillP z P L W := by
  unfold tillP
  rw [getD_set_ne false h]
theorem tillP_out {z : Nat} {P : World → Prop} {L : Array Bool} {W : World} (hL : L.getD z true = false) (h : tillP z P L W) : P W := h.resolve_left (by rw [offD hL]; decide)
theorem own_ty {w : World} {B : Nat} {t : TypeId} {z g n c : Nat} {xs : List Value} (h : w.ownsRow B t z (.slice (some ⟨g, 0, none⟩) n c) n xs) : ∃ cur, w.heap[g]? = some (.cells cur t (0, 0)) := by
  rcases h.2 with ⟨h1, _⟩ | ⟨q, cap, cur, h1, _, h3, _⟩
  · cases h1
  · cases h1; exact ⟨cur, h3⟩
structure Mc (w W : World) (gc gl g : Nat) (A : Array Value) (a : Option Addr) (n c : Nat) (fl : Value) : Prop where
  m : Mb W gc g A a n c fl
  r : W.heap[g + 1]? = some (.cells #[.int .i64 0, .string ⟨#[]⟩] 51 (0, 0))
  f : Ch w W (fun q => q = gc ∨ q = gl)
section
variable {w W W' : World} {gc gl g : Nat} {A : Array Value} {a : Option Addr} {n c : Nat} {fl : Value}
theorem Mc.below (h : Mc w W gc gl g A a n c fl) (hb : Below W.heap.size W W') : Mc w W' gc gl g A a n c fl :=
  ⟨h.m.below hb, (hb.block (g + 1) (Array.getElem?_eq_some_iff.1 h.r).1).trans h.r, h.f.trans (Ch.below hb)⟩
theorem mc_set {B z k d : Nat} {xs : List Value} (h : Mc w W gc gl g A a n c fl) (own : W.ownsRow B 65 z (.slice (some ⟨gl, 0, none⟩) k d) k xs) (hc : Ch W W' (fun q => q = gl)) : Mc w W' gc gl g A a n c fl := by
  obtain ⟨cur, hg⟩ := own_ty own
  have n1 : gc ≠ gl := fun e => by have h1 := h.m.k; rw [e, hg] at h1; simp at h1
  have n2 : g ≠ gl := fun e => by have h1 := h.m.x; rw [e, hg] at h1; simp at h1
  have n3 : g + 1 ≠ gl := fun e => by have h1 := h.r; rw [e, hg] at h1; simp at h1
  exact ⟨⟨(hc.block gc (Array.getElem?_eq_some_iff.1 h.m.k).1 n1).trans h.m.k, (hc.block g (Array.getElem?_eq_some_iff.1 h.m.x).1 n2).trans h.m.x⟩, (hc.block (g + 1) (Array.getElem?_eq_some_iff.1 h.r).1 n3).trans h.r, h.f.trans (hc.weak (fun q _ e => .inr e))⟩
end
theorem outZ : (Tryz.prog.info? 51).map (·.size) = some 2 := by kernel_rfl
theorem done_n (w : World) : Calls Tryz.prog 92 #[] w fun e w' => e = .returned (.agg #[.int .i64 0, .string ⟨#[]⟩]) ∧ Hid (Below w.heap.size w w') := by
  go_enter Tryz.func92, Tryz.ntmps92
  go_wp2
  refine bodyPost_ret (results_cell_row Tryz.results92 _ _ w.heap.size 51 #[.int .i64 0, .string ⟨#[]⟩] (0, 0) _ (by rfl) (heap_alloc_new w _) Tryz.underlying51 rfl outZ) rfl ?_
  exact ⟨rfl, alloc1 w _⟩
set_option maxHeartbeats 4000000 in
theorem make0 {w : World} {A : Array Value} {x : Cx} {gc gl B : Nat} {fl : Value} (hX : Hid (A = (encX x).toArray)) (hk : Hid (w.heap[gc]? = some (.cells #[.slice (some ⟨gl, 0, none⟩) 0 0, fl] 58 (0, 0)))) (own : Hid (w.ownsRow B 65 5 (.slice (some ⟨gl, 0, none⟩) 0 0) 0 [])) (hB : B ≤ w.heap.size) :
    Calls Tryz.prog 65 #[.pointer (some ⟨gc, 0, none⟩), .agg A] w fun e w' => e = .returned (.agg #[.int .i64 0, .string ⟨#[]⟩]) ∧ Hid (∃ a' c', w'.heap[gc]? = some (.cells #[.slice a' 1 c', fl] 58 (0, 0)) ∧ Ch w w' (fun q => q = gc ∨ q = gl)) := by
  have A4 : Hid (A[4]? = some (.string x.cm.bu)) := by rw [hX.out]; rfl
  have A16 : Hid (A[16]? = some (.int .i64 x.cm.tm)) := by rw [hX.out]; rfl
  have a18 : A.size = 18 := encX_sz hX.out
  obtain ⟨w1, Hw1⟩ : ∃ w1, Hid ((w.alloc (.cells A 29)).alloc (.cells #[.int .i64 0, .string ⟨#[]⟩] 51) = w1) := ⟨_, rfl⟩
  obtain ⟨g, Hg⟩ : ∃ g, Hid (w.heap.size = g) := ⟨_, rfl⟩
  have B1 : Hid (Below w.heap.size w w1) := by rw [← Hw1.out]; exact alloc2 w _ _
  have S1 : Mc w w1 gc gl g A (some ⟨gl, 0, none⟩) 0 0 fl := by
    refine ⟨⟨(B1.out.block gc (Array.getElem?_eq_some_iff.1 hk.out).1).trans hk.out, ?_⟩, ?_, Ch.below B1.out⟩
    · rw [← Hw1.out, ← Hg.out]
      exact ((alloc1 (w.alloc (.cells A 29)) _).block w.heap.size (by simp)).trans (heap_alloc_new w _)
    · rw [← Hw1.out, ← Hg.out]
      have e : (w.alloc (.cells A 29)).heap.size = w.heap.size + 1 := by simp
      rw [← e]
      exact heap_alloc_new _ _
  have K0 : Mc w w1.drew gc gl g A (some ⟨gl, 0, none⟩) 0 0 fl := ⟨⟨S1.m.k, S1.m.x⟩, S1.r, S1.f.trans (Ch.drew w1 _)⟩
  have OW1 : Hid (w1.drew.ownsRow B 65 5 (.slice (some ⟨gl, 0, none⟩) 0 0) 0 []) := rown_bel own.out (fun q e => B1.out.block q (own.out.lt q e).2)
  clear S1
  go_enter Tryz.func65, Tryz.ntmps65
  go_upto_region 1 with (fail)
  rw [Hw1.out, Hg.out]
  clear Hw1
  refine wp_region_till (S := fun L W => Mc w W gc gl g A (some ⟨gl, 0, none⟩) 0 0 fl) (by kernel_rfl) K0 (fun hS => ?_)
  clear K0
  refine till_take (i := 0) (v := .pointer (some ⟨gc, 0, none⟩)) rfl (by kernel_rfl) (by kernel_rfl) (by kernel_rfl) (fun _ _ _ h => h) (fun L w => Iff.rfl) (Or.inl ⟨by rfl, fun w => by go_simp⟩) hS (fun hSb => ?_)
  simp only [List.getElem_toArray, List.getElem_cons_zero, List.getElem_cons_succ, Act.put, List.setIfInBounds_toArray, List.set_cons_zero, List.set_cons_succ]
  clear hS
  refine till_take (i := 1) (v := .pointer (some ⟨gc, 0, none⟩)) rfl (by kernel_rfl) (by kernel_rfl) (by kernel_rfl) (fun _ _ _ h => h) (fun L w => Iff.rfl) (Or.inl ⟨by rfl, fun w => by go_simp⟩) hSb (fun hS => ?_)
  simp only [List.getElem_toArray, List.getElem_cons_zero, List.getElem_cons_succ, Act.put, List.setIfInBounds_toArray, List.set_cons_zero, List.set_cons_succ]
  clear hSb
  refine till_take (i := 2) (v := .pointer (some ⟨gc, 0, none⟩)) rfl (by kernel_rfl) (by kernel_rfl) (by kernel_rfl) (fun _ _ _ h => h) (fun L w => Iff.rfl) (Or.inl ⟨by rfl, fun w => by go_simp⟩) hS (fun hSb => ?_)
  simp only [List.getElem_toArray, List.getElem_cons_zero, List.getElem_cons_succ, Act.put, List.setIfInBounds_toArray, List.set_cons_zero, List.set_cons_succ]
  clear hS
  refine till_read (i := 3) (c := 6) (v := .slice (some ⟨gl, 0, none⟩) 0 0) (T := fun W => Mc w W gc gl g A (some ⟨gl, 0, none⟩) 0 0 fl) rfl rfl (by kernel_rfl) (by kernel_rfl) (by kernel_rfl) (by kernel_rfl) (by kernel_rfl) (fun _ _ _ h => h) (fun L w => Iff.rfl) (fun L w h1 h2 => h2) (Or.inl ⟨by rfl, fun w h => by have q9 := h.m.c0; go_simp⟩) hSb (fun hS => ?_)
  simp only [List.getElem_toArray, List.getElem_cons_zero, List.getElem_cons_succ, Act.put, List.setIfInBounds_toArray, List.set_cons_zero, List.set_cons_succ]
  clear hSb
  refine till_take (i := 4) (v := .pointer (some ⟨g, 4, none⟩)) rfl (by kernel_rfl) (by kernel_rfl) (by kernel_rfl) (fun _ _ _ h => h) (fun L w => Iff.rfl) (Or.inl ⟨by rfl, fun w => by go_simp⟩) hS (fun hSb => ?_)
  simp only [List.getElem_toArray, List.getElem_cons_zero, List.getElem_cons_succ, Act.put, List.setIfInBounds_toArray, List.set_cons_zero, List.set_cons_succ]
  clear hS
  refine till_read (i := 5) (c := 6) (v := .string x.cm.bu) (T := fun W => Mc w W gc gl g A (some ⟨gl, 0, none⟩) 0 0 fl) rfl rfl (by kernel_rfl) (by kernel_rfl) (by kernel_rfl) (by kernel_rfl) (by kernel_rfl) (fun _ _ _ h => h) (fun L w => Iff.rfl) (fun L w h1 h2 => h2) (Or.inl ⟨by rfl, fun w h => by have q9 := h.m.ca A4.out; go_simp⟩) hSb (fun hS => ?_)
  simp only [List.getElem_toArray, List.getElem_cons_zero, List.getElem_cons_succ, Act.put, List.setIfInBounds_toArray, List.set_cons_zero, List.set_cons_succ]
  clear hSb
  refine till_one (i := 6) (by kernel_rfl) rfl (fun K hK => ?_)
  simp only [List.getElem_toArray, List.getElem_cons_zero, List.getElem_cons_succ]
  rw [if_pos (by rfl)]
  go_simp
  go_wp2_with (go_at_call 49; refine (find0 _ _ _ _).mono ?_; rintro e w2 ⟨rfl, H2⟩)
  refine hK.out _ _ (hS.below H2.out) (fun hSb => ?_)
  clear hK K
  try simp only [List.getElem_toArray, List.getElem_cons_zero, List.getElem_cons_succ, Act.put, List.setIfInBounds_toArray, List.set_cons_zero, List.set_cons_succ]
  clear hS
  refine till_take (i := 7) (v := .tuple #[.int .i64 0, .bool false]) rfl (by kernel_rfl) (by kernel_rfl) (by kernel_rfl) (fun _ _ _ h => h) (fun L w => Iff.rfl) (Or.inl ⟨by rfl, fun w => by go_simp⟩) hSb (fun hS => ?_)
  simp only [List.getElem_toArray, List.getElem_cons_zero, List.getElem_cons_succ, Act.put, List.setIfInBounds_toArray, List.set_cons_zero, List.set_cons_succ]
  clear hSb
  refine till_take (i := 8) (v := .int .i64 0) rfl (by kernel_rfl) (by kernel_rfl) (by kernel_rfl) (fun _ _ _ h => h) (fun L w => Iff.rfl) (Or.inl ⟨by rfl, fun w => by go_simp⟩) hS (fun hSb => ?_)
  simp only [List.getElem_toArray, List.getElem_cons_zero, List.getElem_cons_succ, Act.put, List.setIfInBounds_toArray, List.set_cons_zero, List.set_cons_succ]
  clear hS
  refine till_take (i := 9) (v := .bool false) rfl (by kernel_rfl) (by kernel_rfl) (by kernel_rfl) (fun _ _ _ h => h) (fun L w => Iff.rfl) (Or.inl ⟨by rfl, fun w => by go_simp⟩) hSb (fun hS => ?_)
  simp only [List.getElem_toArray, List.getElem_cons_zero, List.getElem_cons_succ, Act.put, List.setIfInBounds_toArray, List.set_cons_zero, List.set_cons_succ]
  clear hSb
  refine till_one (i := 10) (by kernel_rfl) rfl (fun K hK => ?_)
  simp only [List.getElem_toArray, List.getElem_cons_zero, List.getElem_cons_succ]
  rw [if_pos (by rfl)]
  go_simp
  refine hK.out _ _ (hS) (fun hSb => ?_)
  clear hK K
  try simp only [List.getElem_toArray, List.getElem_cons_zero, List.getElem_cons_succ, Act.put, List.setIfInBounds_toArray, List.set_cons_zero, List.set_cons_succ]
  clear hS
  refine till_one (i := 11) (by kernel_rfl) rfl (fun K hK => ?_)
  simp only [List.getElem_toArray, List.getElem_cons_zero, List.getElem_cons_succ]
  rw [if_pos (by rfl)]
  go_simp
  refine hK.out _ _ (hSb) (fun hS => ?_)
  clear hK K
  try simp only [List.getElem_toArray, List.getElem_cons_zero, List.getElem_cons_succ, Act.put, List.setIfInBounds_toArray, List.set_cons_zero, List.set_cons_succ]
  clear hSb
  have S3 := hS
  refine till_done (by kernel_rfl) ?_ _
  clear hS
  show (Exit.then _ _) .normal _ _
  have S3h : Hid (Mc w w2 gc gl g A (some ⟨gl, 0, none⟩) 0 0 fl) := S3
  clear S3
  have OW2 : Hid (w2.ownsRow B 65 5 (.slice (some ⟨gl, 0, none⟩) 0 0) 0 []) := rown_bel OW1.out (fun q e => H2.out.block q (OW1.out.lt q e).2)
  have q9 := S3h.out.m.c0
  clear H2 OW1
  go_upto_region 6 with (fail)
  clear q9
  have S4 : Hid (Mc w w2.drew gc gl g A (some ⟨gl, 0, none⟩) 0 0 fl) := ⟨⟨S3h.out.m.k, S3h.out.m.x⟩, S3h.out.r, S3h.out.f.trans (Ch.drew w2 _)⟩
  have OW4 : Hid (w2.drew.ownsRow B 65 5 (.slice (some ⟨gl, 0, none⟩) 0 0) 0 []) := OW2.out
  have hB4 : B ≤ w2.drew.heap.size := Nat.le_trans hB S3h.out.f.size
  refine wp_region_till (S := tillP 15 (fun W => Mc w W gc gl g A (some ⟨gl, 0, none⟩) 0 0 fl)) (by kernel_rfl) (Or.inr S4.out) (fun hS => ?_)
  refine till_take (i := 0) (v := .pointer (some ⟨gc, 0, none⟩)) rfl (by kernel_rfl) (by kernel_rfl) (by kernel_rfl) (fun _ _ _ h => h) (fun L w => tillP_set (by decide)) (Or.inl ⟨by rfl, fun w => by go_simp⟩) hS (fun hSb => ?_)
  simp only [List.getElem_toArray, List.getElem_cons_zero, List.getElem_cons_succ, Act.put, List.setIfInBounds_toArray, List.set_cons_zero, List.set_cons_succ]
  clear hS
  refine till_take (i := 1) (v := .pointer (some ⟨gc, 0, none⟩)) rfl (by kernel_rfl) (by kernel_rfl) (by kernel_rfl) (fun _ _ _ h => h) (fun L w => tillP_set (by decide)) (Or.inl ⟨by rfl, fun w => by go_simp⟩) hSb (fun hS => ?_)
  simp only [List.getElem_toArray, List.getElem_cons_zero, List.getElem_cons_succ, Act.put, List.setIfInBounds_toArray, List.set_cons_zero, List.set_cons_succ]
  clear hSb
  refine till_take (i := 2) (v := .pointer (some ⟨gc, 0, none⟩)) rfl (by kernel_rfl) (by kernel_rfl) (by kernel_rfl) (fun _ _ _ h => h) (fun L w => tillP_set (by decide)) (Or.inl ⟨by rfl, fun w => by go_simp⟩) hS (fun hSb => ?_)
  simp only [List.getElem_toArray, List.getElem_cons_zero, List.getElem_cons_succ, Act.put, List.setIfInBounds_toArray, List.set_cons_zero, List.set_cons_succ]
  clear hS
  refine till_take (i := 3) (v := .pointer (some ⟨gc, 0, none⟩)) rfl (by kernel_rfl) (by kernel_rfl) (by kernel_rfl) (fun _ _ _ h => h) (fun L w => tillP_set (by decide)) (Or.inl ⟨by rfl, fun w => by go_simp⟩) hSb (fun hS => ?_)
  simp only [List.getElem_toArray, List.getElem_cons_zero, List.getElem_cons_succ, Act.put, List.setIfInBounds_toArray, List.set_cons_zero, List.set_cons_succ]
  clear hSb
  refine till_read (i := 4) (c := 15) (v := .slice (some ⟨gl, 0, none⟩) 0 0) (T := fun W => Mc w W gc gl g A (some ⟨gl, 0, none⟩) 0 0 fl) rfl rfl (by kernel_rfl) (by kernel_rfl) (by kernel_rfl) (by kernel_rfl) (by kernel_rfl) (fun _ _ _ h => h) (fun L w => tillP_set (by decide)) (fun L w h1 h2 => tillP_out h1 h2) (Or.inl ⟨by rfl, fun w h => by have q9 := h.m.c0; go_simp⟩) hS (fun hSb => ?_)
  simp only [List.getElem_toArray, List.getElem_cons_zero, List.getElem_cons_succ, Act.put, List.setIfInBounds_toArray, List.set_cons_zero, List.set_cons_succ]
  clear hS
  refine till_take (i := 5) (v := .pointer (some ⟨g, 4, none⟩)) rfl (by kernel_rfl) (by kernel_rfl) (by kernel_rfl) (fun _ _ _ h => h) (fun L w => tillP_set (by decide)) (Or.inl ⟨by rfl, fun w => by go_simp⟩) hSb (fun hS => ?_)
  simp only [List.getElem_toArray, List.getElem_cons_zero, List.getElem_cons_succ, Act.put, List.setIfInBounds_toArray, List.set_cons_zero, List.set_cons_succ]
  clear hSb
  refine till_read (i := 6) (c := 15) (v := .string x.cm.bu) (T := fun W => Mc w W gc gl g A (some ⟨gl, 0, none⟩) 0 0 fl) rfl rfl (by kernel_rfl) (by kernel_rfl) (by kernel_rfl) (by kernel_rfl) (by kernel_rfl) (fun _ _ _ h => h) (fun L w => tillP_set (by decide)) (fun L w h1 h2 => tillP_out h1 h2) (Or.inl ⟨by rfl, fun w h => by have q9 := h.m.ca A4.out; go_simp⟩) hS (fun hSb => ?_)
  simp only [List.getElem_toArray, List.getElem_cons_zero, List.getElem_cons_succ, Act.put, List.setIfInBounds_toArray, List.set_cons_zero, List.set_cons_succ]
  clear hS
  refine till_take (i := 7) (v := .pointer (some ⟨g, 4, none⟩)) rfl (by kernel_rfl) (by kernel_rfl) (by kernel_rfl) (fun _ _ _ h => h) (fun L w => tillP_set (by decide)) (Or.inl ⟨by rfl, fun w => by go_simp⟩) hSb (fun hS => ?_)
  simp only [List.getElem_toArray, List.getElem_cons_zero, List.getElem_cons_succ, Act.put, List.setIfInBounds_toArray, List.set_cons_zero, List.set_cons_succ]
  clear hSb
  refine till_read (i := 8) (c := 15) (v := .string x.cm.bu) (T := fun W => Mc w W gc gl g A (some ⟨gl, 0, none⟩) 0 0 fl) rfl rfl (by kernel_rfl) (by kernel_rfl) (by kernel_rfl) (by kernel_rfl) (by kernel_rfl) (fun _ _ _ h => h) (fun L w => tillP_set (by decide)) (fun L w h1 h2 => tillP_out h1 h2) (Or.inl ⟨by rfl, fun w h => by have q9 := h.m.ca A4.out; go_simp⟩) hS (fun hSb => ?_)
  simp only [List.getElem_toArray, List.getElem_cons_zero, List.getElem_cons_succ, Act.put, List.setIfInBounds_toArray, List.set_cons_zero, List.set_cons_succ]
  clear hS
  refine till_take (i := 9) (v := .pointer (some ⟨g, 16, none⟩)) rfl (by kernel_rfl) (by kernel_rfl) (by kernel_rfl) (fun _ _ _ h => h) (fun L w => tillP_set (by decide)) (Or.inl ⟨by rfl, fun w => by go_simp⟩) hSb (fun hS => ?_)
  simp only [List.getElem_toArray, List.getElem_cons_zero, List.getElem_cons_succ, Act.put, List.setIfInBounds_toArray, List.set_cons_zero, List.set_cons_succ]
  clear hSb
  refine till_read (i := 10) (c := 15) (v := .int .i64 x.cm.tm) (T := fun W => Mc w W gc gl g A (some ⟨gl, 0, none⟩) 0 0 fl) rfl rfl (by kernel_rfl) (by kernel_rfl) (by kernel_rfl) (by kernel_rfl) (by kernel_rfl) (fun _ _ _ h => h) (fun L w => tillP_set (by decide)) (fun L w h1 h2 => tillP_out h1 h2) (Or.inl ⟨by rfl, fun w h => by have q9 := h.m.ca A16.out; go_simp⟩) hS (fun hSb => ?_)
  simp only [List.getElem_toArray, List.getElem_cons_zero, List.getElem_cons_succ, Act.put, List.setIfInBounds_toArray, List.set_cons_zero, List.set_cons_succ]
  clear hS
  refine till_take (i := 11) (v := .agg #[.string x.cm.bu, .int .i64 x.cm.tm, .int .i64 0, .slice none 0 0, .slice none 0 0]) rfl (by kernel_rfl) (by kernel_rfl) (by kernel_rfl) (fun _ _ _ h => h) (fun L w => tillP_set (by decide)) (Or.inl ⟨by rfl, fun w => by go_simp⟩) hSb (fun hS => ?_)
  simp only [List.getElem_toArray, List.getElem_cons_zero, List.getElem_cons_succ, Act.put, List.setIfInBounds_toArray, List.set_cons_zero, List.set_cons_succ]
  clear hSb
  refine till_one (i := 12) (by kernel_rfl) rfl (fun K hK => ?_)
  simp only [List.getElem_toArray, List.getElem_cons_zero, List.getElem_cons_succ]
  rw [if_pos (by rfl)]
  go_simp
  go_wp2_with (go_at_call 91; refine (set0 OW4 hB4).mono ?_; rintro e w5 ⟨a5, c5, rfl, H5⟩)
  have S5 := mc_set S4.out OW4.out H5.out.2
  refine hK.out _ _ (Or.inr S5) (fun hSb => ?_)
  clear hK K
  try simp only [List.getElem_toArray, List.getElem_cons_zero, List.getElem_cons_succ, Act.put, List.setIfInBounds_toArray, List.set_cons_zero, List.set_cons_succ]
  clear hS
  refine till_take (i := 13) (v := .pointer (some ⟨gc, 0, none⟩)) rfl (by kernel_rfl) (by kernel_rfl) (by kernel_rfl) (fun _ _ _ h => h) (fun L w => tillP_set (by decide)) (Or.inl ⟨by rfl, fun w => by go_simp⟩) hSb (fun hS => ?_)
  simp only [List.getElem_toArray, List.getElem_cons_zero, List.getElem_cons_succ, Act.put, List.setIfInBounds_toArray, List.set_cons_zero, List.set_cons_succ]
  clear hSb
  refine till_take (i := 14) (v := .pointer (some ⟨gc, 0, none⟩)) rfl (by kernel_rfl) (by kernel_rfl) (by kernel_rfl) (fun _ _ _ h => h) (fun L w => tillP_set (by decide)) (Or.inl ⟨by rfl, fun w => by go_simp⟩) hS (fun hSb => ?_)
  simp only [List.getElem_toArray, List.getElem_cons_zero, List.getElem_cons_succ, Act.put, List.setIfInBounds_toArray, List.set_cons_zero, List.set_cons_succ]
  clear hS
  refine till_one (i := 15) (by kernel_rfl) rfl (fun K hK => ?_)
  simp only [List.getElem_toArray, List.getElem_cons_zero, List.getElem_cons_succ]
  rw [if_pos (by rfl)]
  have q9 := S5.m.c0
  have q8 := S5.m.fz 0
  go_simp
  refine hK.out _ _ (Or.inl (by kernel_rfl)) (fun hS => ?_)
  clear hK K
  try simp only [List.getElem_toArray, List.getElem_cons_zero, List.getElem_cons_succ, Act.put, List.setIfInBounds_toArray, List.set_cons_zero, List.set_cons_succ]
  clear hSb
  refine till_done (by kernel_rfl) ?_ _
  clear hS
  show (Exit.then _ _) .normal _ _
  have r6 : Hid ((w5.setCell ⟨gc, 0, none⟩ (.slice a5 1 c5)).heap[g + 1]? = some (.cells #[.int .i64 0, .string ⟨#[]⟩] 51 (0, 0))) := (Below.heap_setCell _ _ _ _ (show g + 1 ≠ gc from fun e => by have h1 := S5.r; rw [e, S5.m.k] at h1; simp at h1)).trans S5.r
  have k6 : Hid ((w5.setCell ⟨gc, 0, none⟩ (.slice a5 1 c5)).heap[gc]? = some (.cells #[.slice a5 1 c5, fl] 58 (0, 0))) := set_blkf S5.m.k 0 _
  have f6 : Hid (Ch w (w5.setCell ⟨gc, 0, none⟩ (.slice a5 1 c5)) (fun q => q = gc ∨ q = gl)) := S5.f.trans ((Ch.set w5 gc 0 _).weak (fun q _ e => .inl e))
  obtain ⟨w6, Hw6⟩ : ∃ W, Hid (w5.setCell ⟨gc, 0, none⟩ (.slice a5 1 c5) = W) := ⟨_, rfl⟩
  rw [Hw6.out] at r6 k6 f6 ⊢
  clear Hw6 S5 H5 q9 q8
  obtain ⟨R, HR⟩ : ∃ A, Hid ((#[.int .i64 0, .string ⟨#[]⟩] : Array Value) = A) := ⟨_, rfl⟩
  have a5' : (Tryz.prog.info? 51).map (·.size) = some R.size := by rw [← HR.out]; exact outZ
  have AA : Hid (R.all (·.oneCell') = true) := (show R.all (·.oneCell') = true by rw [← HR.out]; kernel_rfl)
  have a6' : Hid (R.size = 2) := (show R.size = 2 by rw [← HR.out]; rfl)
  go_wp2_with (first
    | (go_at_call 92; refine (done_n _).mono ?_; rintro e w7 ⟨rfl, H7⟩; rw [HR.out]; have r7 : Hid (w7.heap[g + 1]? = some (.cells #[.int .i64 0, .string ⟨#[]⟩] 51 (0, 0))) := (H7.out.block (g + 1) (Array.getElem?_eq_some_iff.1 r6.out).1).trans r6.out)
    | (refine wpList_store_row (by rfl) 51 (.tmp 4) (.tmp 41) (by rfl) (g + 1) R (by rfl) (by rfl) 51 _ r7.out a5' (by rw [a6'.out]; rfl) AA.out ?_))
  refine bodyPost_ret (results_cell_row Tryz.results65 _ _ (g + 1) 51 R (0, 0) _ (by rfl) (setRow_heap _ _ _ _ _ _ r7.out) Tryz.underlying51 rfl a5') rfl ?_
  have ne : gc ≠ g + 1 := fun e => by have h1 := k6.out; rw [e, r6.out] at h1; simp at h1
  refine ⟨by rw [HR.out], a5, c5, ?_, ?_⟩
  · rw [setRow_other _ _ _ _ ne]
    exact (H7.out.block gc (Array.getElem?_eq_some_iff.1 k6.out).1).trans k6.out
  · exact Ch.then (T := fun q => q = g + 1) (f6.out.trans (Ch.below H7.out)) ⟨rfl, rfl, rfl, by rw [setRow_size]; exact Nat.le_refl _, fun k hk2 hn => setRow_other _ _ _ _ hn⟩ (fun q _ h => h) (fun q hq e => by have := Hg.out; omega)
end Go.Proofs.YtfabnnbljkkihaaGreatDoor
