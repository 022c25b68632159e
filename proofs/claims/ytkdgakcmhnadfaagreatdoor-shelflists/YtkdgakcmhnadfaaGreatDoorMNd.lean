import Derived.Test.YtkdgakcmhnadfaaGreatDoorMNa
import Derived.Test.YtkdgakcmhnadfaaGreatDoorMKa
import Derived.Shelf.SlSortCmp.NoneTotal
import Derived.Deep.MidRow
import Derived.Test.YtkdgakcmhnadfaaGreatDoorMFv
/- Nd -/
/- A row of ids: its cells, an id put behind, its sorting. -/
namespace Go.Proofs.YtkdgakcmhnadfaaGreatDoor
open Go.ChangeShapes Go.WideShapes Go.ChangeAt Go.RowKit Go.Shelf Go.Sort
set_option maxRecDepth 20000
set_option linter.unusedVariables false
set_option linter.unusedSimpArgs false
set_option maxHeartbeats 2000000 in
theorem idcmp_w (a0 a1 a2 b0 b1 b2 : Int) (w : World) : Calls Tryz.prog 13 #[idv a0 a1 a2, idv b0 b1 b2] w fun e w' => e = .returned (.int .i64 (orI (cmpI a0 b0) (cmpI a1 b1) (cmpI a2 b2))) ∧ ∃ q os', w' = grow (w.drewN q) os' := by
  go_enter Tryz.func13, Tryz.ntmps13
  go_upto_region 1 with (fail)
  obtain ⟨ga, Ha⟩ : ∃ ga, Hid (w.heap.size = ga) := ⟨_, rfl⟩
  obtain ⟨gb, Hb⟩ : ∃ gb, Hid (ga + 1 = gb) := ⟨_, rfl⟩
  obtain ⟨W1, HW1⟩ : ∃ W1, Hid (((w.alloc (.cells #[.int .i64 a0, .int .i64 a1, .int .i64 a2] 32)).alloc (.cells #[.int .i64 b0, .int .i64 b1, .int .i64 b2] 32)).drew = W1) := ⟨_, rfl⟩
  have K0 : Cq ((w.alloc (.cells #[.int .i64 a0, .int .i64 a1, .int .i64 a2] 32)).alloc (.cells #[.int .i64 b0, .int .i64 b1, .int .i64 b2] 32)).drew ga gb a0 a1 a2 b0 b1 b2 := by
    rw [← Hb.out, ← Ha.out]
    refine ⟨?_, ?_, ?_, ?_, ?_, ?_⟩ <;> simp
  have B0 : Hid (Below w.heap.size w W1) := by rw [← HW1.out]; exact (alloc2 w _ _).drew
  refine wp_region_till (S := fun L W => Cq W ga gb a0 a1 a2 b0 b1 b2) (by kernel_rfl) K0 (fun hS => ?_)
  rw [Ha.out, Hb.out, HW1.out]
  rw [HW1.out] at hS
  clear K0
  refine till_take (i := 0) (v := .pointer (some ⟨ga, 0, none⟩)) rfl (by kernel_rfl) (by kernel_rfl) (by kernel_rfl) (fun _ _ _ h => h) (fun L w => Iff.rfl) (Or.inl ⟨by rfl, fun w => by go_simp⟩) hS (fun hSb => ?_)
  simp only [List.getElem_toArray, List.getElem_cons_zero, List.getElem_cons_succ, Act.put, List.setIfInBounds_toArray, List.set_cons_zero, List.set_cons_succ]
  clear hS
  refine till_read (i := 1) (c := 4) (v := .int .i64 a0) (T := fun W => Cq W ga gb a0 a1 a2 b0 b1 b2) rfl rfl (by kernel_rfl) (by kernel_rfl) (by kernel_rfl) (by kernel_rfl) (by kernel_rfl) (fun _ _ _ h => h) (fun L w => Iff.rfl) (fun L w h1 h2 => h2) (Or.inl ⟨by rfl, fun w h => by have q := h.x0; go_simp⟩) hSb (fun hS => ?_)
  simp only [List.getElem_toArray, List.getElem_cons_zero, List.getElem_cons_succ, Act.put, List.setIfInBounds_toArray, List.set_cons_zero, List.set_cons_succ]
  clear hSb
  refine till_take (i := 2) (v := .pointer (some ⟨gb, 0, none⟩)) rfl (by kernel_rfl) (by kernel_rfl) (by kernel_rfl) (fun _ _ _ h => h) (fun L w => Iff.rfl) (Or.inl ⟨by rfl, fun w => by go_simp⟩) hS (fun hSb => ?_)
  simp only [List.getElem_toArray, List.getElem_cons_zero, List.getElem_cons_succ, Act.put, List.setIfInBounds_toArray, List.set_cons_zero, List.set_cons_succ]
  clear hS
  refine till_read (i := 3) (c := 4) (v := .int .i64 b0) (T := fun W => Cq W ga gb a0 a1 a2 b0 b1 b2) rfl rfl (by kernel_rfl) (by kernel_rfl) (by kernel_rfl) (by kernel_rfl) (by kernel_rfl) (fun _ _ _ h => h) (fun L w => Iff.rfl) (fun L w h1 h2 => h2) (Or.inl ⟨by rfl, fun w h => by have q := h.y0; go_simp⟩) hSb (fun hS => ?_)
  simp only [List.getElem_toArray, List.getElem_cons_zero, List.getElem_cons_succ, Act.put, List.setIfInBounds_toArray, List.set_cons_zero, List.set_cons_succ]
  clear hSb
  refine till_take (i := 5) (v := .pointer (some ⟨ga, 1, none⟩)) rfl (by kernel_rfl) (by kernel_rfl) (by kernel_rfl) (fun _ _ _ h => h) (fun L w => Iff.rfl) (Or.inl ⟨by rfl, fun w => by go_simp⟩) hS (fun hSb => ?_)
  simp only [List.getElem_toArray, List.getElem_cons_zero, List.getElem_cons_succ, Act.put, List.setIfInBounds_toArray, List.set_cons_zero, List.set_cons_succ]
  clear hS
  refine till_read (i := 6) (c := 9) (v := .int .i64 a1) (T := fun W => Cq W ga gb a0 a1 a2 b0 b1 b2) rfl rfl (by kernel_rfl) (by kernel_rfl) (by kernel_rfl) (by kernel_rfl) (by kernel_rfl) (fun _ _ _ h => h) (fun L w => Iff.rfl) (fun L w h1 h2 => h2) (Or.inl ⟨by rfl, fun w h => by have q := h.x1; go_simp⟩) hSb (fun hS => ?_)
  simp only [List.getElem_toArray, List.getElem_cons_zero, List.getElem_cons_succ, Act.put, List.setIfInBounds_toArray, List.set_cons_zero, List.set_cons_succ]
  clear hSb
  refine till_take (i := 7) (v := .pointer (some ⟨gb, 1, none⟩)) rfl (by kernel_rfl) (by kernel_rfl) (by kernel_rfl) (fun _ _ _ h => h) (fun L w => Iff.rfl) (Or.inl ⟨by rfl, fun w => by go_simp⟩) hS (fun hSb => ?_)
  simp only [List.getElem_toArray, List.getElem_cons_zero, List.getElem_cons_succ, Act.put, List.setIfInBounds_toArray, List.set_cons_zero, List.set_cons_succ]
  clear hS
  refine till_read (i := 8) (c := 9) (v := .int .i64 b1) (T := fun W => Cq W ga gb a0 a1 a2 b0 b1 b2) rfl rfl (by kernel_rfl) (by kernel_rfl) (by kernel_rfl) (by kernel_rfl) (by kernel_rfl) (fun _ _ _ h => h) (fun L w => Iff.rfl) (fun L w h1 h2 => h2) (Or.inl ⟨by rfl, fun w h => by have q := h.y1; go_simp⟩) hSb (fun hS => ?_)
  simp only [List.getElem_toArray, List.getElem_cons_zero, List.getElem_cons_succ, Act.put, List.setIfInBounds_toArray, List.set_cons_zero, List.set_cons_succ]
  clear hSb
  refine till_take (i := 10) (v := .pointer (some ⟨ga, 2, none⟩)) rfl (by kernel_rfl) (by kernel_rfl) (by kernel_rfl) (fun _ _ _ h => h) (fun L w => Iff.rfl) (Or.inl ⟨by rfl, fun w => by go_simp⟩) hS (fun hSb => ?_)
  simp only [List.getElem_toArray, List.getElem_cons_zero, List.getElem_cons_succ, Act.put, List.setIfInBounds_toArray, List.set_cons_zero, List.set_cons_succ]
  clear hS
  refine till_read (i := 11) (c := 14) (v := .int .i64 a2) (T := fun W => Cq W ga gb a0 a1 a2 b0 b1 b2) rfl rfl (by kernel_rfl) (by kernel_rfl) (by kernel_rfl) (by kernel_rfl) (by kernel_rfl) (fun _ _ _ h => h) (fun L w => Iff.rfl) (fun L w h1 h2 => h2) (Or.inl ⟨by rfl, fun w h => by have q := h.x2; go_simp⟩) hSb (fun hS => ?_)
  simp only [List.getElem_toArray, List.getElem_cons_zero, List.getElem_cons_succ, Act.put, List.setIfInBounds_toArray, List.set_cons_zero, List.set_cons_succ]
  clear hSb
  refine till_take (i := 12) (v := .pointer (some ⟨gb, 2, none⟩)) rfl (by kernel_rfl) (by kernel_rfl) (by kernel_rfl) (fun _ _ _ h => h) (fun L w => Iff.rfl) (Or.inl ⟨by rfl, fun w => by go_simp⟩) hS (fun hSb => ?_)
  simp only [List.getElem_toArray, List.getElem_cons_zero, List.getElem_cons_succ, Act.put, List.setIfInBounds_toArray, List.set_cons_zero, List.set_cons_succ]
  clear hS
  refine till_read (i := 13) (c := 14) (v := .int .i64 b2) (T := fun W => Cq W ga gb a0 a1 a2 b0 b1 b2) rfl rfl (by kernel_rfl) (by kernel_rfl) (by kernel_rfl) (by kernel_rfl) (by kernel_rfl) (fun _ _ _ h => h) (fun L w => Iff.rfl) (fun L w h1 h2 => h2) (Or.inl ⟨by rfl, fun w h => by have q := h.y2; go_simp⟩) hSb (fun hS => ?_)
  simp only [List.getElem_toArray, List.getElem_cons_zero, List.getElem_cons_succ, Act.put, List.setIfInBounds_toArray, List.set_cons_zero, List.set_cons_succ]
  clear hSb
  refine till_one (i := 4) (by kernel_rfl) rfl (fun K hK => ?_)
  simp only [List.getElem_toArray, List.getElem_cons_zero, List.getElem_cons_succ]
  rw [if_pos (by rfl)]
  go_simp
  go_wp2_with (go_at_call 47; refine (compare_n a0 b0 _).mono ?_; rintro e w0 ⟨rfl, h00⟩; rw [h00]; clear h00)
  refine hK.out _ _ (hS) (fun hSb => ?_)
  clear hK K
  try simp only [List.getElem_toArray, List.getElem_cons_zero, List.getElem_cons_succ, Act.put, List.setIfInBounds_toArray, List.set_cons_zero, List.set_cons_succ]
  clear hS
  refine till_one (i := 9) (by kernel_rfl) rfl (fun K hK => ?_)
  simp only [List.getElem_toArray, List.getElem_cons_zero, List.getElem_cons_succ]
  rw [if_pos (by rfl)]
  go_simp
  go_wp2_with (go_at_call 47; refine (compare_n a1 b1 _).mono ?_; rintro e w0 ⟨rfl, h00⟩; rw [h00]; clear h00)
  refine hK.out _ _ (hSb) (fun hS => ?_)
  clear hK K
  try simp only [List.getElem_toArray, List.getElem_cons_zero, List.getElem_cons_succ, Act.put, List.setIfInBounds_toArray, List.set_cons_zero, List.set_cons_succ]
  clear hSb
  refine till_one (i := 14) (by kernel_rfl) rfl (fun K hK => ?_)
  simp only [List.getElem_toArray, List.getElem_cons_zero, List.getElem_cons_succ]
  rw [if_pos (by rfl)]
  go_simp
  go_wp2_with (go_at_call 47; refine (compare_n a2 b2 _).mono ?_; rintro e w0 ⟨rfl, h00⟩; rw [h00]; clear h00)
  refine hK.out _ _ (hS) (fun hSb => ?_)
  clear hK K
  try simp only [List.getElem_toArray, List.getElem_cons_zero, List.getElem_cons_succ, Act.put, List.setIfInBounds_toArray, List.set_cons_zero, List.set_cons_succ]
  clear hS
  refine till_one (i := 15) (by kernel_rfl) rfl (fun K hK => ?_)
  simp only [List.getElem_toArray, List.getElem_cons_zero, List.getElem_cons_succ]
  rw [if_pos (by rfl)]
  go_simp
  refine hK.out _ _ (hSb.below (alloc1 W1 _)) (fun hT => ?_)
  clear hK K
  try simp only [List.getElem_toArray, List.getElem_cons_zero, List.getElem_cons_succ, Act.put, List.setIfInBounds_toArray, List.set_cons_zero, List.set_cons_succ]
  have q0 : Hid ((W1.alloc (.cells #[.int .i64 (cmpI a0 b0), .int .i64 (cmpI a1 b1), .int .i64 (cmpI a2 b2)] 3)).cell? ⟨W1.heap.size, 0, none⟩ = some (.int .i64 (cmpI a0 b0))) := by show _ = _; simp
  have q1 : Hid ((W1.alloc (.cells #[.int .i64 (cmpI a0 b0), .int .i64 (cmpI a1 b1), .int .i64 (cmpI a2 b2)] 3)).cell? ⟨W1.heap.size, 1, none⟩ = some (.int .i64 (cmpI a1 b1))) := by show _ = _; simp
  have q2 : Hid ((W1.alloc (.cells #[.int .i64 (cmpI a0 b0), .int .i64 (cmpI a1 b1), .int .i64 (cmpI a2 b2)] 3)).cell? ⟨W1.heap.size, 2, none⟩ = some (.int .i64 (cmpI a2 b2))) := by show _ = _; simp
  refine till_one (i := 16) (by kernel_rfl) rfl (fun K hK => ?_)
  simp only [List.getElem_toArray, List.getElem_cons_zero, List.getElem_cons_succ]
  rw [if_pos (by rfl)]
  go_simp
  go_wp2_with (go_at_call 46; refine (or_n _ _ _ q0 q1 q2).mono ?_; rintro e w0 ⟨rfl, h00⟩; rw [h00]; clear h00)
  refine hK.out _ _ hT (fun hU => ?_)
  clear hK K
  try simp only [List.getElem_toArray, List.getElem_cons_zero, List.getElem_cons_succ, Act.put, List.setIfInBounds_toArray, List.set_cons_zero, List.set_cons_succ]
  refine till_one (i := 17) (by kernel_rfl) rfl (fun K hK => ?_)
  simp only [List.getElem_toArray, List.getElem_cons_zero, List.getElem_cons_succ]
  rw [if_pos (by rfl)]
  go_simp
  refine hK.out _ _ hU (fun hV => ?_)
  clear hK K
  try simp only [List.getElem_toArray, List.getElem_cons_zero, List.getElem_cons_succ, Act.put, List.setIfInBounds_toArray, List.set_cons_zero, List.set_cons_succ]
  refine till_done (by kernel_rfl) ?_ _
  go_wp2
  go_ret
  refine ⟨rfl, 1, #[.cells #[.int .i64 a0, .int .i64 a1, .int .i64 a2] 32, .cells #[.int .i64 b0, .int .i64 b1, .int .i64 b2] 32, .cells #[.int .i64 (cmpI a0 b0), .int .i64 (cmpI a1 b1), .int .i64 (cmpI a2 b2)] 3], ?_⟩
  rw [← HW1.out, alloc_eq_grow, alloc_eq_grow, alloc_eq_grow, grow_grow]
  show grow (grow w.drew _) _ = grow w.drew _
  rw [grow_grow]
  rfl
abbrev I3 := Int × Int × Int
def encI (x : I3) : List Value := [.int .i64 x.1, .int .i64 x.2.1, .int .i64 x.2.2]
def cfI (x y : I3) : Int := orI (cmpI x.1 y.1) (cmpI x.2.1 y.2.1) (cmpI x.2.2 y.2.2)
def ltI (x y : I3) : Bool := lessI x.1 x.2.1 x.2.2 y.1 y.2.1 y.2.2
theorem lt_cf (x y : I3) : ltOf cfI x y = ltI x y := by
  unfold ltOf cfI ltI
  rw [orders]
  cases h1 : lessI y.1 y.2.1 y.2.2 x.1 x.2.1 x.2.2 <;> cases h2 : lessI x.1 x.2.1 x.2.2 y.1 y.2.1 y.2.2 <;> simp
  exfalso
  unfold lessI at h1 h2
  split at h1 <;> split at h2 <;> (try split at h1) <;> (try split at h2) <;> simp_all <;> omega
theorem ltI_iff (x y : I3) : ltI x y = true ↔ x.1 < y.1 ∨ (x.1 = y.1 ∧ (x.2.1 < y.2.1 ∨ (x.2.1 = y.2.1 ∧ x.2.2 < y.2.2))) := by
  unfold ltI lessI
  by_cases h0 : x.1 = y.1
  · by_cases h1 : x.2.1 = y.2.1
    · simp [h0, h1]
    · simp [h0, h1]
  · simp [h0]
theorem swoI : SWO (ltOf cfI) where
  irrefl x := by
    rw [lt_cf]
    cases h : ltI x x with
    | false => rfl
    | true => rw [ltI_iff] at h; omega
  trans x y z h1 h2 := by
    rw [lt_cf, ltI_iff] at *
    omega
  ntrans x y z h1 h2 := by
    rw [lt_cf] at *
    have k1 : ¬ ltI x y = true := by rw [h1]; simp
    have k2 : ¬ ltI y z = true := by rw [h2]; simp
    cases h : ltI x z with
    | false => rfl
    | true =>
      rw [ltI_iff] at k1 k2 h
      omega
theorem totI (x y : I3) (h1 : ltOf cfI x y = false) (h2 : ltOf cfI y x = false) : x = y := by
  rw [lt_cf] at h1 h2
  have k1 : ¬ ltI x y = true := by rw [h1]; simp
  have k2 : ¬ ltI y x = true := by rw [h2]; simp
  rw [ltI_iff] at k1 k2
  obtain ⟨x1, x2, x3⟩ := x
  obtain ⟨y1, y2, y3⟩ := y
  simp only at k1 k2
  have e1 : x1 = y1 := by omega
  have e2 : x2 = y2 := by omega
  have e3 : x3 = y3 := by omega
  rw [e1, e2, e3]
def idcs (l : List I3) : List Value := l.flatMap encI
theorem encI_len (x : I3) : (encI x).length = 3 := rfl
theorem encI_one (x : I3) : ∀ v ∈ encI x, v.oneCell' = true := fun v hv => by simp [encI] at hv; rcases hv with rfl | rfl | rfl <;> rfl
theorem idcs_len (l : List I3) : (idcs l).length = l.length * 3 := by
  induction l with
  | nil => rfl
  | cons x l ih =>
    show (encI x ++ idcs l).length = _
    rw [List.length_append, ih, encI_len, List.length_cons]
    omega
theorem idcs_snoc (l : List I3) (x : I3) : idcs (l ++ [x]) = idcs l ++ encI x := by simp [idcs]
theorem idcs_at : ∀ (l : List I3) (t : Nat), t < l.length * 3 → (idcs l)[t]? = some ((encI (l.getD (t / 3) (0, 0, 0)))[t % 3]!)
  | [], t, h => by simp at h
  | x :: l, t, h => by
    show (encI x ++ idcs l)[t]? = _
    by_cases h3 : t < 3
    · rw [List.getElem?_append_left (by rw [encI_len]; exact h3)]
      rcases (by omega : t = 0 ∨ t = 1 ∨ t = 2) with rfl | rfl | rfl <;> rfl
    · rw [List.getElem?_append_right (by rw [encI_len]; omega), encI_len, idcs_at l (t - 3) (by rw [List.length_cons] at h; omega)]
      have e1 : (x :: l).getD (t / 3) (0, 0, 0) = l.getD ((t - 3) / 3) (0, 0, 0) := by
        have e2 : t / 3 = (t - 3) / 3 + 1 := by omega
        rw [e2]
        rfl
      have e3 : (t - 3) % 3 = t % 3 := by omega
      rw [e1, e3]
theorem holds_of {w : World} {B g n cap : Nat} {l : List I3} (h : w.ownsRow B 32 3 (.slice (some ⟨g, 0, none⟩) n cap) n (idcs l)) (hn : n = l.length) : HoldsK encI 3 w g 0 l.toArray := by
  intro t ht
  rw [size_flatK] at ht
  have ht2 : t < n * 3 := by rw [hn]; simpa using ht
  rw [Nat.zero_add, get_flatK _ _ _ _ ht]
  refine ⟨?_, h.frozenAt t⟩
  rw [h.cellAt t ht2, idcs_at l t (by rw [← hn]; exact ht2)]
  have hq : t / 3 < l.length := by omega
  have e : l.toArray[t / 3]! = l.getD (t / 3) (0, 0, 0) := by
    rw [getElem!_pos _ _ (by simpa using hq)]
    simp [List.getD, hq]
  rw [e]
  rfl
theorem info32 : (Tryz.prog.info? 32).map (fun i => (i.zero, i.size, i.bytes)) = some (some (.agg #[.int .i64 0, .int .i64 0, .int .i64 0]), 3, 24) := by kernel_rfl
theorem app_id {w : World} {B : Nat} {v : Value} {l : List I3} {gX : Nat} {x : I3} (own : w.ownsRow B 32 3 v l.length (idcs l)) (hX : w.heap[gX]? = some (.cells (encI x).toArray 32 (0, 0))) (hl : l.length ≤ 1000000) (hB : B ≤ w.heap.size) :
    ∃ v' w', (Builtin.append_ #[53, 53] 53 #[v, .slice (some ⟨gX, 0, none⟩) 1 1]).run Tryz.prog w = .ok v' w' ∧ w'.ownsRow B 32 3 v' (l ++ [x]).length (idcs (l ++ [x])) ∧ w.grownBy w' v.ownBlock := by
  obtain ⟨i, hi, hz0, hz1, hz2⟩ := info_parts info32
  obtain ⟨v', w', hrun, hown, hgr, _⟩ := run_append_own (P := Tryz.prog) w B 53 53 32 i _ 3 24 Tryz.underlying53 hi hz0 hz1 hz2 rfl (by decide) v l.length (idcs l) own ⟨gX, 0, none⟩ 1 1 (encI x) rfl (fun j u hu => by
    rw [Addr.add_mid, Nat.zero_add]
    simp only [World.cell?, hX]
    simpa using hu) (encI_one x) (by unfold maxLen; omega) (by omega) hB
  refine ⟨v', w', hrun, ?_, hgr⟩
  rw [idcs_snoc, List.length_append]
  exact hown
theorem wpListIn_app53 {F : Fence} {N : Nat} {ops : Array Oper} {rest : List Oper} {o : Oper} {a : Act} {Q : Exit → Act → World → Prop} {w w' : World} {v v1 v2 : Value} (hgd : o.guard = none) (s x : Operand)
    (ho : o.op = .call { callee := .builtin .append, args := #[s, x], argTypes := #[53, 53] }) (hty : o.type = 53) (hs : a.eval s = v1) (hx : a.eval x = v2) (hrun : Hid ((Builtin.append_ #[53, 53] 53 #[v1, v2]).run Tryz.prog w = .ok v w'))
    (h : wpListIn F N Tryz.prog ops Q rest (a.put o.dst v) w') : wpListIn F N Tryz.prog ops Q (o :: rest) a w := by
  refine wpListIn_plain hgd fun K hK => ?_
  have hr := hrun.out
  unfold Oper.wpIn
  refine ⟨?_, ?_⟩
  · simp [Oper.about, ho, resolve, Target.leads, Sem.run_pure]
  · rw [Oper.semAt_plain F _ _ (by rw [ho]; intro c hc'; cases hc')]
    simp [execOp, ho, resolve, invoke, builtin, hs, hx, hty, hr, Result.andThen]
    exact hK _ _ h
/- a sorted row -/
theorem cmpl (blk off size : Nat) (w : World) : CmpLays Tryz.prog 13 #[] encI 3 cfI blk off size w := fun _ _ _ _ x y => idcmp_w x.1 x.2.1 x.2.2 y.1 y.2.1 y.2.2 _
theorem sort_n {w : World} {B g n cap : Nat} {l : List I3} (h : Hid (w.ownsRow B 32 3 (.slice (some ⟨g, 0, none⟩) n cap) n (idcs l))) (hn : Hid (n = l.length)) (hb : n ≤ 1000000) :
    Calls Tryz.prog 65 #[.slice (some ⟨g, 0, none⟩) n cap, .func (.func 13) #[] #[]] w fun e w' => e = .returned (.tuple #[]) ∧ Hid (HoldsK encI 3 w' g 0 (l.mergeSort fun x y => !(ltI y x)).toArray ∧ w.grownBy w' (some g)) := by
  have hH := holds_of h.out hn.out
  have hlt : g < w.heap.size := (h.out.lt g rfl).2
  have hc := AnyQ.slices_SortFunc_total Tryz.sort65 3 Tryz.isAgg32 Tryz.sizeOf32 encI encI_len encI_one cfI swoI 13 #[] g 0 cap l.toArray w (enters_of Tryz.func13 (by kernel_rfl) rfl) (cmpl g 0 _ w) hH hlt (by have := hn.out; simp; omega) totI
  have e1 : l.toArray.size = n := by rw [hn.out]; simp
  rw [e1] at hc
  refine hc.mono ?_
  rintro e w' ⟨rfl, k, os, rfl⟩
  refine ⟨rfl, ?_, ?_⟩
  · have e2 : (fun x y => !(ltOf cfI) y x) = (fun x y => !(ltI y x)) := by funext x y; rw [lt_cf]
    rw [show l.toArray.toList = l from by simp, e2]
    exact holdsK_sortWorldK encI 3 w g 0 k l.toArray _ os hlt hH (by simp)
  · refine ⟨rfl, rfl, rfl, size_sortWorldK_c encI 3 w g 0 k _ os, fun i hi hne => ?_⟩
    have hig : g ≠ i := fun e => hne (by rw [e])
    unfold sortWorldK grow putRowK putRow mapBlock Sort.ahead
    show (Array.modify w.heap g _ ++ os)[i]? = w.heap[i]?
    rw [Array.getElem?_append_left (by simpa using hi)]
    simp [Array.getElem?_modify, hig]
/- a slice that reads as these ids -/
structure Ids (w : World) (a : Option Addr) (n : Nat) (l : List I3) : Prop where
  len : n = l.length
  row : l = [] ∨ ∃ g, a = some ⟨g, 0, none⟩ ∧ HoldsK encI 3 w g 0 l.toArray
theorem ids_lt {w : World} {g : Nat} {l : List I3} (h : HoldsK encI 3 w g 0 l.toArray) (h0 : l ≠ []) : g < w.heap.size := by
  cases l with
  | nil => exact absurd rfl h0
  | cons x l =>
    have h1 := h 0 (by simp [size_flatK])
    exact cell_lt h1.1
theorem Ids.below {w w' : World} {a : Option Addr} {n : Nat} {l : List I3} (h : Ids w a n l) (hb : Below w.heap.size w w') : Ids w' a n l := by
  refine ⟨h.len, ?_⟩
  by_cases h0 : l = []
  · exact .inl h0
  · obtain ⟨g, h1, h2⟩ := h.row.resolve_left h0
    have hg := ids_lt h2 h0
    refine .inr ⟨g, h1, fun t ht => ?_⟩
    have h3 := h2 t ht
    have e := hb.block g hg
    refine ⟨(World.cell?_of_block (a := ⟨g, 0 + t, none⟩) e).trans h3.1, ?_⟩
    have h4 := h3.2
    unfold World.frozen? at h4 ⊢
    simp only at h4 ⊢
    rw [e]
    exact h4
theorem Ids.at_ {w : World} {a : Option Addr} {n : Nat} {l : List I3} (h : Ids w a n l) {i : Nat} (hi : i < n) : ∃ g, a = some ⟨g, 0, none⟩ ∧ w.cell? ⟨g, i * 3, none⟩ = some (.int .i64 (l.getD i (0, 0, 0)).1) ∧ w.cell? ⟨g, i * 3 + 1, none⟩ = some (.int .i64 (l.getD i (0, 0, 0)).2.1) ∧ w.cell? ⟨g, i * 3 + 2, none⟩ = some (.int .i64 (l.getD i (0, 0, 0)).2.2) := by
  have hl := h.len
  have h0 : l ≠ [] := by rintro rfl; simp at hl; omega
  obtain ⟨g, h1, h2⟩ := h.row.resolve_left h0
  have e : l.toArray[i]! = l.getD i (0, 0, 0) := by
    rw [getElem!_pos _ _ (by simp; omega)]
    simp [List.getD, show i < l.length by omega]
  refine ⟨g, h1, ?_, ?_, ?_⟩
  · have h3 := h2.cell (i := i) (c := 0) (by simp; omega) (by omega)
    rw [e] at h3
    simpa [encI] using h3.1
  · have h3 := h2.cell (i := i) (c := 1) (by simp; omega) (by omega)
    rw [e] at h3
    simpa [encI] using h3.1
  · have h3 := h2.cell (i := i) (c := 2) (by simp; omega) (by omega)
    rw [e] at h3
    simpa [encI] using h3.1
theorem sort_any {w : World} {B : Nat} {v : Value} {l : List I3} (h : Hid (w.ownsRow B 32 3 v l.length (idcs l))) (hb : Hid (l.length ≤ 1000000)) :
    ∃ a n c, v = .slice a n c ∧ Calls Tryz.prog 65 #[.slice a n c, .func (.func 13) #[] #[]] w fun e w' => e = .returned (.tuple #[]) ∧ Hid (Ids w' a n (l.mergeSort fun x y => !(ltI y x)) ∧ w.grownBy w' v.ownBlock) := by
  rcases h.out.2 with ⟨rfl, h0⟩ | ⟨g, cap, cur, rfl, _⟩
  · obtain rfl : l = [] := List.length_eq_zero_iff.1 h0
    refine ⟨none, 0, 0, rfl, ?_⟩
    refine (AnyF.slices_SortFunc_none Tryz.sort65 none 0 (.func (.func 13) #[] #[]) w).mono ?_
    rintro e w' ⟨rfl, rfl⟩
    exact ⟨rfl, ⟨by simp, .inl (by simp)⟩, World.grownBy.refl _ _⟩
  · refine ⟨_, _, _, rfl, ?_⟩
    refine (sort_n (show Hid (w.ownsRow B 32 3 (.slice (some ⟨g, 0, none⟩) l.length cap) l.length (idcs l)) from h.out) rfl hb.out).mono ?_
    rintro e w' ⟨rfl, H⟩
    exact ⟨rfl, ⟨by rw [List.length_mergeSort], .inr ⟨g, rfl, H.out.1⟩⟩, H.out.2⟩
end Go.Proofs.YtkdgakcmhnadfaaGreatDoor

/- Ne -/
/- List and Sweep of package shelf, where all files are blobs' files. -/
namespace Go.Proofs.YtkdgakcmhnadfaaGreatDoor
open Go.ChangeShapes Go.WideShapes Go.ChangeAt Go.RowKit Go.Shelf
set_option maxRecDepth 20000
set_option linter.unusedVariables false
set_option linter.unusedSimpArgs false
attribute [local go_sem] Oper.semAt_some
abbrev gd3 (p : I3) : Prop := gdI p.1 p.2.1 p.2.2
abbrev nm3 (p : I3) : ByteArray := nmS 98 p.1 p.2.1 p.2.2
/- all files are blobs' files -/
def AllB (v : ByteArray → Option Fl) : Prop := ∀ t, (v t).isSome = true → ∃ p : I3, gd3 p ∧ t = nm3 p
open Classical in
noncomputable def prs (t : ByteArray) : I3 := if h : ∃ p : I3, gd3 p ∧ t = nm3 p then h.choose else (0, 0, 0)
theorem prs_ok {t : ByteArray} (h : ∃ p : I3, gd3 p ∧ t = nm3 p) : gd3 (prs t) ∧ t = nm3 (prs t) := by
  unfold prs
  rw [dif_pos h]
  exact h.choose_spec
theorem prs_nm {p : I3} (h : gd3 p) : prs (nm3 p) = p := by
  have h1 := prs_ok (t := nm3 p) ⟨p, h, rfl⟩
  obtain ⟨e1, e2, e3⟩ := nmS_inj h1.1 h h1.2.symm
  obtain ⟨p1, p2, p3⟩ := p
  simp only at e1 e2 e3
  apply Prod.ext
  · exact e1
  · exact Prod.ext e2 e3
/- the ids of a shelf, rising -/
structure IdS (v : ByteArray → Option Fl) (l : List I3) : Prop where
  mem : ∀ p, p ∈ l ↔ gd3 p ∧ (v (nm3 p)).isSome = true
  up : l.Pairwise (fun x y => ltI x y = true)
theorem ids_of {v : ByteArray → Option Fl} (ha : AllB v) {ks : List ByteArray} (hn : Nmd v ks) : IdS v ((ks.map prs).mergeSort fun x y => !(ltI y x)) := by
  have hp : ∀ t ∈ ks, gd3 (prs t) ∧ t = nm3 (prs t) := fun t ht => prs_ok (ha t ((hn.mem t).1 ht))
  refine ⟨fun p => ?_, ?_⟩
  · rw [List.mem_mergeSort, List.mem_map]
    constructor
    · rintro ⟨t, ht, rfl⟩
      have h := hp t ht
      exact ⟨h.1, by rw [← h.2]; exact (hn.mem t).1 ht⟩
    · rintro ⟨h1, h2⟩
      exact ⟨nm3 p, (hn.mem _).2 h2, prs_nm h1⟩
  · have hle := List.pairwise_mergeSort (le := fun x y : I3 => !(ltI y x)) (fun a b c h1 h2 => by
      simp only [Bool.not_eq_true', Bool.not_eq_eq_eq_not, Bool.not_true] at *
      have k1 : ¬ ltI b a = true := by rw [h1]; simp
      have k2 : ¬ ltI c b = true := by rw [h2]; simp
      cases h : ltI c a with
      | false => rfl
      | true => rw [ltI_iff] at k1 k2 h; omega) (fun a b => by
      cases h : ltI b a with
      | false => simp
      | true =>
        have : ¬ ltI a b = true := by rw [ltI_iff] at h ⊢; omega
        simp at this
        simp [this]) (ks.map prs)
    have hnd : ((ks.map prs).mergeSort fun x y => !(ltI y x)).Nodup := by
      rw [(List.mergeSort_perm _ _).nodup_iff]
      refine List.pairwise_map.2 (hn.nd.imp_of_mem fun {s t} hs ht hne e => hne ?_)
      rw [(hp s hs).2, (hp t ht).2, e]
    refine (hle.and hnd).imp (fun {a b} h => ?_)
    have h1 : ltI b a = false := by simpa using h.1
    cases h2 : ltI a b with
    | true => rfl
    | false => exact absurd (totI a b (by rw [lt_cf]; exact h2) (by rw [lt_cf]; exact h1)) h.2
theorem own_bel {w w' : World} {B : Nat} {t : TypeId} {z : Nat} {v : Value} {n : Nat} {xs : List Value} (h : w.ownsRow B t z v n xs) (hb : Below w.heap.size w w') : w'.ownsRow B t z v n xs := by
  refine ⟨h.1, h.2.imp id ?_⟩
  rintro ⟨q, cap, cur, e1, e2, e3, e4⟩
  exact ⟨q, cap, cur, e1, e2, (hb.block q (Array.getElem?_eq_some_iff.1 e3).1).trans e3, e4⟩
theorem Ids.blk {w w' : World} {a : Option Addr} {n : Nat} {l : List I3} (h : Ids w a n l) (hb : ∀ g, a = some ⟨g, 0, none⟩ → w'.heap[g]? = w.heap[g]?) : Ids w' a n l := by
  refine ⟨h.len, h.row.imp id ?_⟩
  rintro ⟨g, h1, h2⟩
  refine ⟨g, h1, fun t ht => ?_⟩
  have h3 := h2 t ht
  have e := hb g h1
  refine ⟨(World.cell?_of_block (a := ⟨g, 0 + t, none⟩) e).trans h3.1, ?_⟩
  have h4 := h3.2
  unfold World.frozen? at h4 ⊢
  simp only at h4 ⊢
  rw [e]
  exact h4
theorem own_slice {w : World} {B : Nat} {t : TypeId} {z : Nat} {v : Value} {n : Nat} {xs : List Value} (h : w.ownsRow B t z v n xs) : ∃ a n c, v = .slice a n c := by
  rcases h.2 with ⟨h1, _⟩ | ⟨g, cap, cur, h1, _⟩
  · exact ⟨_, _, _, h1⟩
  · exact ⟨_, _, _, h1⟩
set_option maxHeartbeats 4000000 in
theorem list_v {w0 w : World} {M : Nat} {E : Nat → Addr} {g d m : Nat} {node : Int} {fu : Bool} {v : ByteArray → Option Fl} {k : Nat} (hF : Hid (Sf w0 w M E g d m node fu v k)) (hm : Hid (Mxl w)) (ha : Hid (AllB v)) :
    Calls Tryz.prog 22 #[.pointer (some ⟨g, 0, none⟩)] w fun e w' => ∃ a n c l, e = .returned (.slice a n c) ∧ Hid (Ids w' a n l ∧ IdS v l ∧ n ≤ 512 ∧ Below w.heap.size w w') := by
  refine (callsIn_wide (n := 20)).1 ?_
  refine callsIn_of_wp_marks Tryz.func22 rfl trivial ?_ rfl
  simp only [Tryz.ntmps22, List.size_toArray, List.length_cons, List.length_nil, Nat.reduceAdd, Nat.reduceSub, Array.replicate_succ, Array.replicate_zero, List.push_toArray, List.append_toArray, List.nil_append, List.cons_append]
  obtain ⟨gb, Hgb⟩ : ∃ gb, Hid (w.heap.size = gb) := ⟨_, rfl⟩
  obtain ⟨W1, HW1⟩ : ∃ W1, Hid (w.alloc (.cells #[.slice none 0 0] 53) = W1) := ⟨_, rfl⟩
  have b1 : Hid (Below w.heap.size w W1) := by rw [← HW1.out]; exact alloc1 w _
  have F1 : Hid (Sf w0 W1 M E g d m node fu v k) := hF.out.below b1.out
  have D1 : Hid (Dw W1 d m v k fu) := F1.out.dv
  have c1 : ∀ o, (w.alloc o).cell? ⟨g, 1, none⟩ = some (.pointer (some ⟨d, 0, none⟩)) := fun o => (hF.out.below (alloc1 w o)).shl.c1
  have X1 : Hid (Boxed W1 gb 53 (.slice none 0 0) ∧ W1.heap.size = gb + 1) := by
    rw [← HW1.out, ← Hgb.out]
    exact ⟨Boxed.new w 53 _, by simp⟩
  gi_wp2_with (first
    | (refine ⟨trivial, ?_⟩; gi_at_call 62; rw [HW1.out]; refine (callsIn_wide.2 (list_w D1)).mono ?_; rintro e V ⟨K, a, n, c, ks, rfl, HV⟩))
  obtain ⟨l, Hl⟩ : ∃ l, Hid (ks.map prs = l) := ⟨_, rfl⟩
  have bV : Hid (Below W1.heap.size W1 V) := HV.out.2.2.2.2.2
  have BV : Hid (Below w.heap.size w V) := b1.out.trans (bV.out.mono b1.out.size)
  have kn : Hid (n = ks.length) := HV.out.1.len
  have hkb : Hid (n ≤ 512) := HV.out.2.2.2.2.1
  have lk : Hid (l.length = n) := by rw [← Hl.out, kn.out]; show _ = _; simp
  have sV : Hid (gb + 1 ≤ V.heap.size) := by have h1 := bV.out.size; have h2 := X1.out.2; show _ ≤ _; omega
  have XV : Hid (Boxed V gb 53 (.slice none 0 0)) := Boxed.blk X1.out.1 (bV.out.block gb (by have := X1.out.2; omega))
  have PR : Hid (∀ i, i < n → gd3 (l.getD i (0, 0, 0)) ∧ ks.getD i e0 = nm3 (l.getD i (0, 0, 0))) := fun i hi => by
    have hi2 : i < ks.length := by have := kn.out; omega
    have h1 := prs_ok (ha.out (ks[i]) ((HV.out.2.2.2.1.mem _).1 (List.getElem_mem hi2)))
    have e1 : l.getD i (0, 0, 0) = prs ks[i] := by
      rw [← Hl.out]
      simp [List.getD, hi2]
    have e2 : ks.getD i e0 = ks[i] := by simp [List.getD, hi2]
    rw [e1, e2]
    exact h1
  rw [Hgb.out]
  refine rangeC (C := fun b => b = gb) rfl (by omega) (gf := 126) (lb := #[.pointer (some ⟨K, 0, none⟩)]) rfl trivial (enters_of Tryz.func126 (by kernel_rfl) rfl)
    (values_seqC 19 (by omega) K n c W1.heap.size a ks _ V HV.out.2.1 HV.out.1 hkb.out ?c1) (Below.refl _ _) (fun _ => rfl) ?hC ?hGd
    (fun Z pre U => ∃ x, Boxed U gb 53 x ∧ U.ownsRow Z 32 3 x (l.take pre.length).length (idcs (l.take pre.length)) ∧ Below w.heap.size w U)
    (fun Z c pre U => False) ?hI ?hIx (fun Z _ => ⟨_, XV.out, World.ownsRow_nil V Z 32 3, BV.out⟩)
    (fun x : Nat => { tmps := #[.pointer (some ⟨g, 0, none⟩), undef, .slice none 0 0, .pointer (some ⟨gb, 0, none⟩), .string (ks.getD x e0), undef, undef, .pointer (some ⟨g, 0, none⟩), .pointer (some ⟨g, 0, none⟩), .pointer (some ⟨g, 1, none⟩), .pointer (some ⟨d, 0, none⟩), .func (.func 126) #[] #[.pointer (some ⟨K, 0, none⟩)], .string (ks.getD x e0), undef, undef, undef, undef, undef, undef, undef, undef, undef, undef, undef, undef, undef], defers := [] }) ?assign ?body ?done ?stop
  case c1 =>
    intro q h0 hq h
    obtain ⟨g', h1, h2, _⟩ := HV.out.1.at_ h0
    rw [hq] at h1
    cases h1
    have := X1.out.2
    omega
  case hC => intro b h; have := sV.out; omega
  case hGd => exact fun _ _ _ _ _ _ _ h => h
  case hI =>
    rintro Z pre A B hZ ⟨x, h1, h2, h3⟩ hb
    have h5 := sV.out
    have h6 := BV.out.size
    refine ⟨x, Boxed.blk h1 (hb.bel.block gb (by omega)), ?_, h3.trans (hb.bel.mono h6)⟩
    refine ⟨h2.1, h2.2.imp id ?_⟩
    rintro ⟨q, cap, cur, e1, e2, e3, e4⟩
    exact ⟨q, cap, cur, e1, e2, (hb.top q e2 (Array.getElem?_eq_some_iff.1 e3).1).trans e3, e4⟩
  case hIx => exact fun _ _ _ _ _ _ h _ => h
  case assign =>
    intro l' x U K' hK
    gi_wp2
    exact hK
  case body =>
    rintro l' Z pre x U hZ hU ⟨y, hY, hO, hB⟩ ⟨hx1, hx2⟩
    subst hx1
    obtain ⟨q, Hq⟩ : ∃ q, Hid (pre.length = q) := ⟨_, rfl⟩
    rw [Hq.out] at hO hx2 ⊢
    obtain ⟨p, Hp⟩ : ∃ p, Hid (l.getD q (0, 0, 0) = p) := ⟨_, rfl⟩
    have P1 : Hid (gdI p.1 p.2.1 p.2.2) := by rw [← Hp.out]; exact (PR.out q hx2).1
    have P2 : ks.getD q e0 = nmS 98 p.1 p.2.1 p.2.2 := by rw [← Hp.out]; exact (PR.out q hx2).2
    rw [P2]
    have EU : Hid (Env U M E) := hF.out.here.below hB
    have MU : Hid (Mxl U) := hm.out.below hB
    have BO := blobof_ok EU MU P1
    obtain ⟨s, Hs⟩ : ∃ s, Hid (nmS 98 p.1 p.2.1 p.2.2 = s) := ⟨_, rfl⟩
    rw [Hs.out] at BO ⊢
    obtain ⟨t, Ht⟩ : ∃ t, Hid (l.take q = t) := ⟨_, rfl⟩
    rw [Ht.out] at hO
    have TN : Hid (l.take (q + 1) = t ++ [p]) := by
      have hql : q < l.length := by have := lk.out; omega
      show _ = _
      rw [List.take_add_one, Ht.out, List.getElem?_eq_getElem hql, ← Hp.out]
      simp [List.getD, hql]
    have tl : Hid (t.length ≤ 1000000) := by rw [← Ht.out]; have := lk.out; have := hkb.out; show _ ≤ _; simp; omega
    obtain ⟨p1, p2, p3⟩ := p
    have HY : Hid (Boxed U gb 53 y) := hY
    have HO : Hid (U.ownsRow Z 32 3 y t.length (idcs t)) := hO
    have HB : Hid (Below w.heap.size w U) := hB
    have HZ : Hid (Z ≤ U.heap.size ∧ V.heap.size + 2 ≤ Z) := ⟨hU, hZ⟩
    clear hY hO hB hx2 hU hZ
    gi_wp2_with (first
      | (refine ⟨trivial, ?_⟩; gi_at_call 63; refine (CallsIn.inRound l' (callsIn_wide.2 BO)).mono ?_; rintro e U1 ⟨rfl, H1⟩
         obtain ⟨g5, Hg5⟩ : ∃ g5, Hid (U1.heap.size = g5) := ⟨_, rfl⟩
         obtain ⟨U3, HU3⟩ : ∃ U3, Hid ((U1.alloc (.cells #[.int .i64 p1, .int .i64 p2, .int .i64 p3] 32)).alloc (.cells #[.int .i64 p1, .int .i64 p2, .int .i64 p3] 32) = U3) := ⟨_, rfl⟩
         have b3 : Hid (Below U.heap.size U U3) := by rw [← HU3.out]; exact H1.out.trans ((alloc2 U1 _ _).mono H1.out.size)
         have y2 : ∀ o, (U1.alloc o).cell? ⟨gb, 0, none⟩ = some y := fun o => (Boxed.blk HY.out ((H1.out.trans ((alloc1 U1 o).mono H1.out.size)).block gb HY.out.lt)).cell
         have Y3 : Hid (Boxed U3 gb 53 y) := Boxed.blk HY.out (b3.out.block gb HY.out.lt)
         have O3 : Hid (U3.ownsRow Z 32 3 y t.length (idcs t)) := own_bel HO.out b3.out
         have N3 : U3.heap[g5 + 1]? = some (.cells (encI (p1, p2, p3)).toArray 32 (0, 0)) := by
           rw [← HU3.out, ← Hg5.out]
           have h := heap_alloc_new (U1.alloc (.cells #[.int .i64 p1, .int .i64 p2, .int .i64 p3] 32)) (.cells #[.int .i64 p1, .int .i64 p2, .int .i64 p3] 32)
           rw [World.size_alloc] at h
           exact h
         obtain ⟨y4, U4, AP0, O4, G4⟩ := app_id O3.out N3 tl.out (by have := b3.out.size; have := HZ.out; omega)
         obtain ⟨a4, n4, k4, rfl⟩ : ∃ a4 n4 k4, y4 = .slice a4 n4 k4 := own_slice O4
         have AP : Hid ((Builtin.append_ #[53, 53] 53 #[y, .slice (some ⟨U1.heap.size + 1, 0, none⟩) 1 1]).run Tryz.prog ((U1.alloc (.cells #[.int .i64 p1, .int .i64 p2, .int .i64 p3] 32)).alloc (.cells #[.int .i64 p1, .int .i64 p2, .int .i64 p3] 32)) = .ok (.slice a4 n4 k4) U4) := by rw [HU3.out, Hg5.out]; exact AP0
         have OW4 : Hid (U4.ownsRow Z 32 3 (.slice a4 n4 k4) (t ++ [(p1, p2, p3)]).length (idcs (t ++ [(p1, p2, p3)]))) := O4
         have GR4 : Hid (U3.grownBy U4 y.ownBlock) := G4
         have gz : Hid (gb < V.heap.size) := by have := sV.out; show _ < _; omega
         have yb : Hid (∀ q, y.ownBlock = some q → Z ≤ q) := fun q hq => (O3.out.lt q hq).1
         have Y4 : Hid (Boxed U4 gb 53 y) := Y3.out.kept G4 (fun e => by have h1 := yb.out gb e.symm; have h2 := HZ.out; have h3 := gz.out; omega)
         have c4 := Y4.out.cell
         have f4 := Y4.out.frozen
         clear AP0 O4 G4 N3)
      | (gi_at_builtin; refine wpListIn_app53 (by rfl) (.tmp 19) (.tmp 21) (by rfl) (by rfl) (by rfl) (by rfl) AP ?_))
    obtain ⟨U5, HU5⟩ : ∃ U5, Hid (U4.setCell ⟨gb, 0, none⟩ (.slice a4 n4 k4) = U5) := ⟨_, rfl⟩
    have e1 : (pre ++ [q]).length = q + 1 := by rw [List.length_append, Hq.out]; rfl
    have FIN : Hid (postC (fun b => b = gb) V.heap.size Z (fun pre U => ∃ x, Boxed U gb 53 x ∧ U.ownsRow Z 32 3 x (l.take pre.length).length (idcs (l.take pre.length)) ∧ Below w.heap.size w U) (fun c pre U => False) (pre ++ [q]) U .normal ⟨#[], []⟩ U5) := by
      have hz := HZ.out
      have hgz := gz.out
      have k4' : KeepC (fun b => b = gb) V.heap.size Z U3 U4 := by
        cases hy : y.ownBlock with
        | none =>
          have g4 := GR4.out
          rw [hy] at g4
          exact KeepC.of_below _ _ _ ⟨g4.os, g4.tape, g4.output, g4.size, fun i hi => g4.block i hi (by simp)⟩
        | some r =>
          have g4 := GR4.out
          rw [hy] at g4
          exact KeepC.of_grown _ _ g4 (.inr (yb.out r hy))
      have k5 : KeepC (fun b => b = gb) V.heap.size Z U4 U5 := by rw [← HU5.out]; exact KeepC.of_set _ _ U4 ⟨gb, 0, none⟩ _ (.inl rfl)
      have hvs := BV.out.size
      have b4 : Below w.heap.size w U4 := by
        have h1 := HB.out.trans (b3.out.mono HB.out.size)
        exact h1.grown GR4.out h1.size (fun k e => by have := yb.out k e; omega)
      refine ⟨((KeepC.of_below _ _ _ b3.out).trans k4').trans k5, .slice a4 n4 k4, ?_, ?_, ?_⟩
      · rw [← HU5.out]; exact Y4.out.set _
      · rw [e1, TN.out, ← HU5.out]
        refine ⟨OW4.out.1, OW4.out.2.imp id ?_⟩
        rintro ⟨r, cap, cur, z1, z2, z3, z4⟩
        exact ⟨r, cap, cur, z1, z2, (Below.heap_setCell U4 ⟨gb, 0, none⟩ _ r (by show r ≠ gb; omega)).trans z3, z4⟩
      · rw [← HU5.out]
        exact b4.setCell (by show w.heap.size ≤ gb; rw [Hgb.out]; exact Nat.le_refl _) _
    rw [HU5.out]
    exact FIN.out
  case done =>
    rintro D Z xs U hD hZ hS ⟨y, hY, hO, hB⟩ hK
    subst hS
    rw [List.length_range] at hO
    have e1 : l.take n = l := by rw [← lk.out]; exact List.take_length
    rw [e1] at hO
    have HY : Hid (Boxed U gb 53 y) := hY
    have HO : Hid (U.ownsRow Z 32 3 y l.length (idcs l)) := hO
    have HB : Hid (Below w.heap.size w U) := hB
    have HK : Hid (U.heap[D]? = some (.deferred (some []))) := hK
    have HZ : Hid (V.heap.size ≤ D ∧ D + 2 ≤ Z) := ⟨hD, hZ⟩
    obtain ⟨a4, n4, k4, rfl⟩ := own_slice hO
    have cy := HY.out.cell
    obtain ⟨ax, nx, cx, ex, SO⟩ := sort_any HO (by show _ ≤ _; have := lk.out; have := hkb.out; omega)
    cases ex
    clear hY hO hB hK hD hZ
    gi_wp2_with (first
      | (refine ⟨trivial, ?_⟩; gi_at_call 65; refine (callsIn_wide.2 SO).mono ?_; rintro e U2 ⟨rfl, H2⟩
         have Y2 : Hid (Boxed U2 gb 53 (.slice a4 n4 k4)) := HY.out.kept H2.out.2 (fun e => by have h1 := (HO.out.lt gb e.symm).1; have h2 := HZ.out; have h3 := sV.out; omega)
         have cy2 := Y2.out.cell))
    have K2 : U2.heap[D]? = some (.deferred (some [])) := (H2.out.2.block D (Array.getElem?_eq_some_iff.1 HK.out).1 (fun e => by have h1 := (HO.out.lt D e.symm).1; have h2 := HZ.out; omega)).trans HK.out
    have FIN : Hid (Ids (U2.putObj D (.deferred none)) a4 n4 (l.mergeSort fun x y => !(ltI y x)) ∧ IdS v (l.mergeSort fun x y => !(ltI y x)) ∧ n4 ≤ 512 ∧ Below w.heap.size w (U2.putObj D (.deferred none))) := by
      have lD : D < U2.heap.size := (Array.getElem?_eq_some_iff.1 K2).1
      have hz := HZ.out
      have hvs := BV.out.size
      refine ⟨H2.out.1.blk (fun r hr => ?_), ?_, ?_, ?_⟩
      · have h1 := (HO.out.lt r (by rw [hr]; rfl)).1
        exact World.putObj_heap_other (by omega)
      · rw [← Hl.out]
        exact ids_of ha.out HV.out.2.2.2.1
      · have h1 := H2.out.1.len
        rw [List.length_mergeSort, lk.out] at h1
        have := hkb.out
        omega
      · have h1 := HB.out.grown H2.out.2 HB.out.size (fun k e => by have := (HO.out.lt k e).1; omega)
        exact h1.trans ((put_below (m := w.heap.size) (.deferred none) (by omega) lD))
    refine ⟨by simp, .inl ⟨_, _, rfl, run_takeDeferred K2, ?_⟩⟩
    exact ⟨_, results_tmp rfl _ _ _, a4, n4, k4, _, rfl, FIN.out⟩
  case stop => exact fun _ _ _ _ _ _ _ _ h _ => h.elim
set_option maxHeartbeats 4000000 in
theorem sweep_v {w0 w : World} {M : Nat} {E : Nat → Addr} {g d m : Nat} {node : Int} {fu : Bool} {v : ByteArray → Option Fl} {k : Nat} (hF : Hid (Sf w0 w M E g d m node fu v k)) (hm : Hid (Mxl w)) (ha : Hid (AllB v)) :
    Calls Tryz.prog 21 #[.pointer (some ⟨g, 0, none⟩)] w fun e w' => e = .returned (.int .i64 0) ∧ Hid (Below w.heap.size w w') := by
  refine (callsIn_wide (n := 20)).1 ?_
  refine callsIn_of_wp_marks Tryz.func21 rfl trivial ?_ rfl
  simp only [Tryz.ntmps21, List.size_toArray, List.length_cons, List.length_nil, Nat.reduceAdd, Nat.reduceSub, Array.replicate_succ, Array.replicate_zero, List.push_toArray, List.append_toArray, List.nil_append, List.cons_append]
  obtain ⟨gb, Hgb⟩ : ∃ gb, Hid (w.heap.size = gb) := ⟨_, rfl⟩
  obtain ⟨W1, HW1⟩ : ∃ W1, Hid ((w.alloc (.cells #[.pointer (some ⟨g, 0, none⟩)] 24)).alloc (.cells #[.int .i64 0] 3) = W1) := ⟨_, rfl⟩
  have b1 : Hid (Below w.heap.size w W1) := by rw [← HW1.out]; exact alloc2 w _ _
  have F1 : Hid (Sf w0 W1 M E g d m node fu v k) := hF.out.below b1.out
  have D1 : Hid (Dw W1 d m v k fu) := F1.out.dv
  have c1 : ∀ o o2, ((w.alloc o).alloc o2).cell? ⟨g, 1, none⟩ = some (.pointer (some ⟨d, 0, none⟩)) := fun o o2 => (hF.out.below (alloc2 w o o2)).shl.c1
  have X1 : Hid (Boxed W1 (gb + 1) 3 (.int .i64 0) ∧ W1.heap.size = gb + 2) := by
    rw [← HW1.out, ← Hgb.out]
    have h := Boxed.new (w.alloc (.cells #[.pointer (some ⟨g, 0, none⟩)] 24)) 3 (.int .i64 0)
    rw [World.size_alloc] at h
    exact ⟨h, by simp⟩
  gi_wp2_with (first
    | (refine ⟨trivial, ?_⟩; gi_at_call 62; rw [HW1.out]; refine (callsIn_wide.2 (list_w D1)).mono ?_; rintro e V ⟨K, a, n, c, ks, rfl, HV⟩))
  have bV : Hid (Below W1.heap.size W1 V) := HV.out.2.2.2.2.2
  have BV : Hid (Below w.heap.size w V) := b1.out.trans (bV.out.mono b1.out.size)
  have kn : Hid (n = ks.length) := HV.out.1.len
  have hkb : Hid (n ≤ 512) := HV.out.2.2.2.2.1
  have sV : Hid (gb + 2 ≤ V.heap.size) := by have h1 := bV.out.size; have h2 := X1.out.2; show _ ≤ _; omega
  have XV : Hid (Boxed V (gb + 1) 3 (.int .i64 0)) := Boxed.blk X1.out.1 (bV.out.block (gb + 1) (by have := X1.out.2; omega))
  have PR : Hid (∀ i, i < n → ∃ p : I3, gd3 p ∧ ks.getD i e0 = nm3 p) := fun i hi => by
    have hi2 : i < ks.length := by have := kn.out; omega
    have h1 := ha.out (ks[i]) ((HV.out.2.2.2.1.mem _).1 (List.getElem_mem hi2))
    have e2 : ks.getD i e0 = ks[i] := by simp [List.getD, hi2]
    rw [e2]
    exact h1
  rw [Hgb.out]
  refine rangeC (C := fun b => False) rfl (by omega) (gf := 126) (lb := #[.pointer (some ⟨K, 0, none⟩)]) rfl trivial (enters_of Tryz.func126 (by kernel_rfl) rfl)
    (values_seqC 19 (by omega) K n c W1.heap.size a ks _ V HV.out.2.1 HV.out.1 hkb.out (fun _ _ _ h => h)) (Below.refl _ _) (fun _ => rfl) (fun b h => h.elim) (fun _ _ _ _ _ _ _ h => h)
    (fun Z pre U => Boxed U (gb + 1) 3 (.int .i64 0) ∧ Below w.heap.size w U)
    (fun Z c pre U => False) ?hI (fun _ _ _ _ _ _ h _ => h) (fun Z _ => ⟨XV.out, BV.out⟩)
    (fun x : Nat => { tmps := #[.pointer (some ⟨g, 0, none⟩), .pointer (some ⟨gb, 0, none⟩), .int .i64 0, .pointer (some ⟨gb + 1, 0, none⟩), .string (ks.getD x e0), undef, undef, .pointer (some ⟨g, 0, none⟩), .pointer (some ⟨g, 0, none⟩), .pointer (some ⟨g, 1, none⟩), .pointer (some ⟨d, 0, none⟩), .func (.func 126) #[] #[.pointer (some ⟨K, 0, none⟩)], .string (ks.getD x e0), undef, undef, undef, undef, undef, undef, undef, undef, undef, undef, undef, undef, undef, undef, undef, undef], defers := [] }) ?assign ?body ?done (fun _ _ _ _ _ _ _ _ h _ => h.elim)
  case hI =>
    rintro Z pre A B hZ ⟨h1, h3⟩ hb
    have h5 := sV.out
    have h6 := BV.out.size
    exact ⟨Boxed.blk h1 (hb.bel.block (gb + 1) (by omega)), h3.trans (hb.bel.mono h6)⟩
  case assign =>
    intro l' x U K' hK
    gi_wp2
    exact hK
  case body =>
    rintro l' Z pre x U hZ hU ⟨hY, hB⟩ ⟨hx1, hx2⟩
    obtain ⟨p, P1', P2⟩ := PR.out x hx2
    have P1 : Hid (gdI p.1 p.2.1 p.2.2) := P1'
    rw [P2]
    have EU : Hid (Env U M E) := hF.out.here.below hB
    have MU : Hid (Mxl U) := hm.out.below hB
    have BO := blobof_ok EU MU P1
    obtain ⟨s, Hs⟩ : ∃ s, Hid (nmS 98 p.1 p.2.1 p.2.2 = s) := ⟨_, rfl⟩
    have e9 : nm3 p = s := Hs.out
    rw [Hs.out] at BO
    rw [e9]
    obtain ⟨p1, p2, p3⟩ := p
    have HY : Hid (Boxed U (gb + 1) 3 (.int .i64 0)) := hY
    have HB : Hid (Below w.heap.size w U) := hB
    clear hY hB hx1 hx2 hU hZ P1' e9 P2
    gi_wp2_with (first
      | (refine ⟨trivial, ?_⟩; gi_at_call 63; refine (CallsIn.inRound l' (callsIn_wide.2 BO)).mono ?_; rintro e U1 ⟨rfl, H1⟩))
    have b3 : Below U.heap.size U (U1.alloc (.cells #[.int .i64 p1, .int .i64 p2, .int .i64 p3] 32)) := H1.out.trans ((alloc1 U1 _).mono H1.out.size)
    exact ⟨KeepC.of_below _ _ _ b3, Boxed.blk HY.out (b3.block _ HY.out.lt), HB.out.trans (b3.mono HB.out.size)⟩
  case done =>
    rintro D Z xs U hD hZ hS ⟨hY, hB⟩ hK
    have HB : Hid (Below w.heap.size w U) := hB
    have HK : Hid (U.heap[D]? = some (.deferred (some []))) := hK
    have HD : Hid (V.heap.size ≤ D) := hD
    have cy := hY.cell
    clear hY hB hK hS hD hZ
    gi_wp2
    have lD : D < U.heap.size := (Array.getElem?_eq_some_iff.1 HK.out).1
    refine ⟨by simp, .inl ⟨_, _, rfl, run_takeDeferred HK.out, ?_⟩⟩
    exact ⟨_, results_tmp rfl _ _ _, rfl, HB.out.trans (put_below (m := w.heap.size) (.deferred none) (by have := HD.out; have := BV.out.size; omega) lD)⟩
end Go.Proofs.YtkdgakcmhnadfaaGreatDoor
