import Derived.Test.YtkdgakcmhnadfaaGreatDoorMIt
import Derived.Test.YtkdgakcmhnadfaaGreatDoorMKa
import Derived.Lib.AppendIntMem
/- Kd -/
/- The names of a shelf's files: a number's digits, joined by dashes. -/
namespace Go.Proofs.YtkdgakcmhnadfaaGreatDoor
open Go.ChangeShapes Go.WideShapes Go.ChangeAt Go.RowKit
set_option maxRecDepth 20000
set_option linter.unusedVariables false
set_option linter.unusedSimpArgs false
/- the table of the powers of ten lies as it was laid -/
def Tab (w : World) : Prop := Lib.TabIs Tryz.prog w "internal/strconv.uint64pow10" .u64 Lib.pow10Tab
theorem tab_g : Tryz.prog.globalNamed "internal/strconv.uint64pow10" = some 23 := by kernel_rfl
theorem Tab.lt {w : World} (h : Tab w) : 23 < w.heap.size := by
  unfold Tab Lib.TabIs World.var? at h
  rw [tab_g] at h
  simp only [Option.bind_some] at h
  rcases Nat.lt_or_ge 23 w.heap.size with h' | h'
  · exact h'
  · rw [Array.getElem?_eq_none h'] at h; cases h
theorem Tab.keep {w w' : World} (h : Tab w) (e : w'.heap[23]? = w.heap[23]?) : Tab w' := by
  unfold Tab Lib.TabIs World.var? at h ⊢
  rw [tab_g] at h ⊢
  simp only [Option.bind_some] at h ⊢
  rw [e]
  exact h
theorem Tab.below {w w' : World} (h : Tab w) (hb : Below w.heap.size w w') : Tab w' := h.keep (hb.block 23 h.lt)
def itS (n : Int) : ByteArray := ⟨(Lib.itoa n).toArray⟩
theorem itoa_n (n : Int) (h0 : -9223372036854775808 ≤ n) (h1 : n ≤ 9223372036854775807) {w : World} (ht : Hid (Tab w)) :
    Calls Tryz.prog 124 #[.int .i64 n] w fun e w' => e = .returned (.string (itS n)) ∧ Hid (Below w.heap.size w w' ∧ Tab w') := by
  refine (Any.strconv_Itoa Tryz.itoa124 n h0 h1 w ht.out).mono ?_
  rintro e w' ⟨rfl, k, os, rfl⟩
  have hb := Lib.below_grow w.heap.size w (Nat.le_refl _) k os
  exact ⟨rfl, hb, ht.out.below hb⟩
theorem bx125 : Builder.Extra Tryz.prog Tryz.join125_ren where
  sizeBuilder := by kernel_rfl
  liesBuilder := by kernel_rfl
  t5 := Tryz.underlying5
  a5 := Tryz.isAgg5
  z5 := Tryz.sizeOf5
  v5 := Tryz.zeroValue5
  infoByte := by kernel_rfl
  cellsByte := by kernel_rfl
  sizeByte := by kernel_rfl
  neB5 := by decide
/- a file's name -/
def nmL (k : List UInt8) (a b c : Int) : List UInt8 := Lib.join [k, Lib.itoa a, Lib.itoa b, Lib.itoa c] [45]
def nmS (k : UInt8) (a b c : Int) : ByteArray := ⟨(nmL [k] a b c).toArray⟩
theorem dec_len (u : Nat) (k : Nat) (h : u < 10 ^ k) (hk : 1 ≤ k) : (Lib.decDigits u).length ≤ k := by
  induction k generalizing u with
  | zero => omega
  | succ k ih =>
    rw [Lib.decDigits]
    split
    · simp
    · rename_i h9
      rw [List.length_append]
      rcases Nat.eq_zero_or_pos k with rfl | hp
      · omega
      · have := ih (u / 10) (by rw [Nat.pow_succ] at h; omega) hp
        simp; omega
theorem itoa_len (n : Int) (h0 : -9223372036854775808 ≤ n) (h1 : n ≤ 9223372036854775807) : (Lib.itoa n).length ≤ 20 := by
  unfold Lib.itoa
  split
  · have := dec_len n.natAbs 19 (by omega) (by omega)
    simp; omega
  · have := dec_len n.toNat 19 (by omega) (by omega)
    omega
theorem nmL_len (k : UInt8) (a b c : Int) : (nmL [k] a b c).length = 4 + (Lib.itoa a).length + (Lib.itoa b).length + (Lib.itoa c).length := by
  unfold nmL
  rw [Lib.join_length]
  simp [Lib.lens]
  omega
theorem join_n {w : World} (k : UInt8) (a b c : Int) (g cap : Nat) (hl : (nmL [k] a b c).length ≤ 140737488355328) (hc : 4 ≤ cap)
    (c0 : Hid (w.cell? ⟨g, 0, none⟩ = some (.string ⟨#[k]⟩))) (c1 : Hid (w.cell? ⟨g, 1, none⟩ = some (.string (itS a)))) (c2 : Hid (w.cell? ⟨g, 2, none⟩ = some (.string (itS b)))) (c3 : Hid (w.cell? ⟨g, 3, none⟩ = some (.string (itS c)))) :
    Calls Tryz.prog 125 #[.slice (some ⟨g, 0, none⟩) 4 cap, .string ⟨#[45]⟩] w fun e w' => e = .returned (.string (nmS k a b c)) ∧ Hid (Below w.heap.size w w') := by
  have h := Any.strings_Join Tryz.join125 bx125 g 0 cap [⟨#[k]⟩, itS a, itS b, itS c] ⟨#[45]⟩ w (by
    intro j x hj
    match j, hj with
    | 0, hj => simp at hj; rw [← hj]; exact c0.out
    | 1, hj => simp at hj; rw [← hj]; exact c1.out
    | 2, hj => simp at hj; rw [← hj]; exact c2.out
    | 3, hj => simp at hj; rw [← hj]; exact c3.out
    | (j + 4), hj => simp at hj) (cell_lt c0.out) (by simp) hc (by simpa [itS, nmL] using hl)
  refine h.mono ?_
  rintro e w' ⟨rfl, hb⟩
  exact ⟨by simp [nmS, nmL, itS], hb⟩
end Go.Proofs.YtkdgakcmhnadfaaGreatDoor

/- Ke -/
/- nameOf, stageOf and fileOf of package shelf. -/
namespace Go.Proofs.YtkdgakcmhnadfaaGreatDoor
open Go.ChangeShapes Go.WideShapes Go.ChangeAt Go.RowKit
set_option maxRecDepth 20000
set_option linter.unusedVariables false
set_option linter.unusedSimpArgs false
def I64 (a : Int) : Prop := -9223372036854775808 ≤ a ∧ a ≤ 9223372036854775807
/- what nameOf reads -/
structure Nq (W0 W : World) (g : Nat) (a b c : Int) : Prop where
  x0 : W.cell? ⟨g, 0, none⟩ = some (.int .i64 a)
  x1 : W.cell? ⟨g, 1, none⟩ = some (.int .i64 b)
  x2 : W.cell? ⟨g, 2, none⟩ = some (.int .i64 c)
  tab : Tab W
  bel : Below W0.heap.size W0 W
theorem Nq.below {W0 W W' : World} {g : Nat} {a b c : Int} (h : Nq W0 W g a b c) (hb : Below W.heap.size W W') : Nq W0 W' g a b c :=
  ⟨(hb.cell (p := ⟨g, 0, none⟩) (cell_lt h.x0)).trans h.x0, (hb.cell (p := ⟨g, 1, none⟩) (cell_lt h.x1)).trans h.x1, (hb.cell (p := ⟨g, 2, none⟩) (cell_lt h.x2)).trans h.x2, h.tab.below hb, h.bel.trans (hb.mono h.bel.size)⟩
set_option maxHeartbeats 2000000 in
theorem nameof_n (k : UInt8) (a b c : Int) (ha : I64 a) (hb : I64 b) (hc : I64 c) {w : World} (ht : Hid (Tab w)) : Calls Tryz.prog 98 #[.string ⟨#[k]⟩, idv a b c] w fun e w' => e = .returned (.string (nmS k a b c)) ∧ Hid (Below w.heap.size w w') := by
  have hl : (nmL [k] a b c).length ≤ 140737488355328 := by
    rw [nmL_len]
    have e1 := itoa_len a ha.1 ha.2
    have e2 := itoa_len b hb.1 hb.2
    have e3 := itoa_len c hc.1 hc.2
    omega
  go_enter Tryz.func98, Tryz.ntmps98
  go_upto_region 1 with (fail)
  obtain ⟨ga, Ha⟩ : ∃ ga, Hid (w.heap.size = ga) := ⟨_, rfl⟩
  obtain ⟨V0, HV⟩ : ∃ V0, Hid ((w.alloc (.cells #[.int .i64 a, .int .i64 b, .int .i64 c] 32)).drew = V0) := ⟨_, rfl⟩
  have K0 : Nq w (w.alloc (.cells #[.int .i64 a, .int .i64 b, .int .i64 c] 32)).drew ga a b c := by
    rw [← Ha.out]
    exact ⟨by simp, by simp, by simp, ht.out.below (alloc1 w _).drew, (alloc1 w _).drew⟩
  refine wp_region_till (S := fun L W => Nq w W ga a b c) (by kernel_rfl) K0 (fun hS => ?_)
  rw [Ha.out, HV.out]
  rw [HV.out] at hS
  clear K0
  refine till_take (i := 0) (v := .string ⟨#[k]⟩) rfl (by kernel_rfl) (by kernel_rfl) (by kernel_rfl) (fun _ _ _ h => h) (fun L w => Iff.rfl) (Or.inl ⟨by rfl, fun w => by go_simp⟩) hS (fun hSb => ?_)
  simp only [List.getElem_toArray, List.getElem_cons_zero, List.getElem_cons_succ, Act.put, List.setIfInBounds_toArray, List.set_cons_zero, List.set_cons_succ]
  clear hS
  refine till_take (i := 1) (v := .pointer (some ⟨ga, 0, none⟩)) rfl (by kernel_rfl) (by kernel_rfl) (by kernel_rfl) (fun _ _ _ h => h) (fun L w => Iff.rfl) (Or.inl ⟨by rfl, fun w => by go_simp⟩) hSb (fun hS => ?_)
  simp only [List.getElem_toArray, List.getElem_cons_zero, List.getElem_cons_succ, Act.put, List.setIfInBounds_toArray, List.set_cons_zero, List.set_cons_succ]
  clear hSb
  refine till_read (i := 2) (c := 3) (v := .int .i64 a) (T := fun W => Nq w W ga a b c) rfl rfl (by kernel_rfl) (by kernel_rfl) (by kernel_rfl) (by kernel_rfl) (by kernel_rfl) (fun _ _ _ h => h) (fun L w => Iff.rfl) (fun L w h1 h2 => h2) (Or.inl ⟨by rfl, fun w h => by have q := h.x0; go_simp⟩) hS (fun hSb => ?_)
  simp only [List.getElem_toArray, List.getElem_cons_zero, List.getElem_cons_succ, Act.put, List.setIfInBounds_toArray, List.set_cons_zero, List.set_cons_succ]
  clear hS
  refine till_take (i := 4) (v := .pointer (some ⟨ga, 1, none⟩)) rfl (by kernel_rfl) (by kernel_rfl) (by kernel_rfl) (fun _ _ _ h => h) (fun L w => Iff.rfl) (Or.inl ⟨by rfl, fun w => by go_simp⟩) hSb (fun hS => ?_)
  simp only [List.getElem_toArray, List.getElem_cons_zero, List.getElem_cons_succ, Act.put, List.setIfInBounds_toArray, List.set_cons_zero, List.set_cons_succ]
  clear hSb
  refine till_read (i := 5) (c := 6) (v := .int .i64 b) (T := fun W => Nq w W ga a b c) rfl rfl (by kernel_rfl) (by kernel_rfl) (by kernel_rfl) (by kernel_rfl) (by kernel_rfl) (fun _ _ _ h => h) (fun L w => Iff.rfl) (fun L w h1 h2 => h2) (Or.inl ⟨by rfl, fun w h => by have q := h.x1; go_simp⟩) hS (fun hSb => ?_)
  simp only [List.getElem_toArray, List.getElem_cons_zero, List.getElem_cons_succ, Act.put, List.setIfInBounds_toArray, List.set_cons_zero, List.set_cons_succ]
  clear hS
  refine till_take (i := 7) (v := .pointer (some ⟨ga, 2, none⟩)) rfl (by kernel_rfl) (by kernel_rfl) (by kernel_rfl) (fun _ _ _ h => h) (fun L w => Iff.rfl) (Or.inl ⟨by rfl, fun w => by go_simp⟩) hSb (fun hS => ?_)
  simp only [List.getElem_toArray, List.getElem_cons_zero, List.getElem_cons_succ, Act.put, List.setIfInBounds_toArray, List.set_cons_zero, List.set_cons_succ]
  clear hSb
  refine till_read (i := 8) (c := 9) (v := .int .i64 c) (T := fun W => Nq w W ga a b c) rfl rfl (by kernel_rfl) (by kernel_rfl) (by kernel_rfl) (by kernel_rfl) (by kernel_rfl) (fun _ _ _ h => h) (fun L w => Iff.rfl) (fun L w h1 h2 => h2) (Or.inl ⟨by rfl, fun w h => by have q := h.x2; go_simp⟩) hS (fun hSb => ?_)
  simp only [List.getElem_toArray, List.getElem_cons_zero, List.getElem_cons_succ, Act.put, List.setIfInBounds_toArray, List.set_cons_zero, List.set_cons_succ]
  clear hS
  refine till_one (i := 3) (by kernel_rfl) rfl (fun K hK => ?_)
  simp only [List.getElem_toArray, List.getElem_cons_zero, List.getElem_cons_succ]
  rw [if_pos (by rfl)]
  go_simp
  have T0 : Hid (Tab V0) := hSb.tab
  go_wp2_with (go_at_call 124; refine (itoa_n a ha.1 ha.2 T0).mono ?_; rintro e V1 ⟨rfl, H0⟩)
  refine hK.out _ _ (hSb.below H0.out.1) (fun hS => ?_)
  clear hK K
  try simp only [List.getElem_toArray, List.getElem_cons_zero, List.getElem_cons_succ, Act.put, List.setIfInBounds_toArray, List.set_cons_zero, List.set_cons_succ]
  clear hSb
  clear T0 H0
  refine till_one (i := 6) (by kernel_rfl) rfl (fun K hK => ?_)
  simp only [List.getElem_toArray, List.getElem_cons_zero, List.getElem_cons_succ]
  rw [if_pos (by rfl)]
  go_simp
  have T1 : Hid (Tab V1) := hS.tab
  go_wp2_with (go_at_call 124; refine (itoa_n b hb.1 hb.2 T1).mono ?_; rintro e V2 ⟨rfl, H1⟩)
  refine hK.out _ _ (hS.below H1.out.1) (fun hSb => ?_)
  clear hK K
  try simp only [List.getElem_toArray, List.getElem_cons_zero, List.getElem_cons_succ, Act.put, List.setIfInBounds_toArray, List.set_cons_zero, List.set_cons_succ]
  clear hS
  clear T1 H1
  refine till_one (i := 9) (by kernel_rfl) rfl (fun K hK => ?_)
  simp only [List.getElem_toArray, List.getElem_cons_zero, List.getElem_cons_succ]
  rw [if_pos (by rfl)]
  go_simp
  have T2 : Hid (Tab V2) := hSb.tab
  go_wp2_with (go_at_call 124; refine (itoa_n c hc.1 hc.2 T2).mono ?_; rintro e V3 ⟨rfl, H2⟩)
  refine hK.out _ _ (hSb.below H2.out.1) (fun hS => ?_)
  clear hK K
  try simp only [List.getElem_toArray, List.getElem_cons_zero, List.getElem_cons_succ, Act.put, List.setIfInBounds_toArray, List.set_cons_zero, List.set_cons_succ]
  clear hSb
  clear T2 H2
  refine till_one (i := 10) (by kernel_rfl) rfl (fun K hK => ?_)
  simp only [List.getElem_toArray, List.getElem_cons_zero, List.getElem_cons_succ]
  rw [if_pos (by rfl)]
  go_simp
  refine hK.out _ _ (hS.below (alloc1 V3 _)) (fun hT => ?_)
  clear hK K
  try simp only [List.getElem_toArray, List.getElem_cons_zero, List.getElem_cons_succ, Act.put, List.setIfInBounds_toArray, List.set_cons_zero, List.set_cons_succ]
  have B3 : Hid (Below w.heap.size w V3) := hS.bel
  clear hS
  have q0 : Hid ((V3.alloc (.cells #[.string ⟨#[k]⟩, .string (itS a), .string (itS b), .string (itS c)] 9)).cell? ⟨V3.heap.size, 0, none⟩ = some (.string ⟨#[k]⟩)) := by show _ = _; simp
  have q1 : Hid ((V3.alloc (.cells #[.string ⟨#[k]⟩, .string (itS a), .string (itS b), .string (itS c)] 9)).cell? ⟨V3.heap.size, 1, none⟩ = some (.string (itS a))) := by show _ = _; simp
  have q2 : Hid ((V3.alloc (.cells #[.string ⟨#[k]⟩, .string (itS a), .string (itS b), .string (itS c)] 9)).cell? ⟨V3.heap.size, 2, none⟩ = some (.string (itS b))) := by show _ = _; simp
  have q3 : Hid ((V3.alloc (.cells #[.string ⟨#[k]⟩, .string (itS a), .string (itS b), .string (itS c)] 9)).cell? ⟨V3.heap.size, 3, none⟩ = some (.string (itS c))) := by show _ = _; simp
  refine till_one (i := 11) (by kernel_rfl) rfl (fun K hK => ?_)
  simp only [List.getElem_toArray, List.getElem_cons_zero, List.getElem_cons_succ]
  rw [if_pos (by rfl)]
  go_simp
  refine hK.out _ _ hT (fun hV => ?_)
  clear hK K
  try simp only [List.getElem_toArray, List.getElem_cons_zero, List.getElem_cons_succ, Act.put, List.setIfInBounds_toArray, List.set_cons_zero, List.set_cons_succ]
  refine till_done (by kernel_rfl) ?_ _
  clear hT hV
  go_wp2_with (go_at_call 125; refine (join_n k a b c _ 4 hl (by omega) q0 q1 q2 q3).mono ?_; rintro e V4 ⟨rfl, H4⟩)
  go_ret
  have h1 := B3.out.trans ((alloc1 V3 (.cells #[.string ⟨#[k]⟩, .string (itS a), .string (itS b), .string (itS c)] 9)).mono B3.out.size)
  exact ⟨rfl, h1.trans (H4.out.mono h1.size)⟩
theorem stageof_n (a b c : Int) (ha : I64 a) (hb : I64 b) (hc : I64 c) {w : World} (ht : Hid (Tab w)) : Calls Tryz.prog 92 #[idv a b c] w fun e w' => e = .returned (.string (nmS 116 a b c)) ∧ Hid (Below w.heap.size w w') := by
  have T1 : ∀ ob, Hid (Tab (w.alloc ob)) := fun ob => ht.out.below (alloc1 w ob)
  go_enter Tryz.func92, Tryz.ntmps92
  go_wp2_with (go_at_call 98; refine (nameof_n 116 a b c ha hb hc (T1 _)).mono ?_; rintro e w1 ⟨rfl, H1⟩)
  go_ret
  exact ⟨rfl, (alloc1 w _).trans (H1.out.mono (by simp))⟩
theorem fileof_n (a b c : Int) (ha : I64 a) (hb : I64 b) (hc : I64 c) {w : World} (ht : Hid (Tab w)) : Calls Tryz.prog 59 #[idv a b c] w fun e w' => e = .returned (.string (nmS 98 a b c)) ∧ Hid (Below w.heap.size w w') := by
  have T1 : ∀ ob, Hid (Tab (w.alloc ob)) := fun ob => ht.out.below (alloc1 w ob)
  go_enter Tryz.func59, Tryz.ntmps59
  go_wp2_with (go_at_call 98; refine (nameof_n 98 a b c ha hb hc (T1 _)).mono ?_; rintro e w1 ⟨rfl, H1⟩)
  go_ret
  exact ⟨rfl, (alloc1 w _).trans (H1.out.mono (by simp))⟩
end Go.Proofs.YtkdgakcmhnadfaaGreatDoor

/- Kf -/
/- Names of files: which ids they belong to. -/
namespace Go.Proofs.YtkdgakcmhnadfaaGreatDoor
open Go.ChangeShapes Go.WideShapes Go.ChangeAt Go.RowKit
set_option maxRecDepth 20000
set_option linter.unusedVariables false
set_option linter.unusedSimpArgs false
theorem dg_of {i : Nat} (h : i < 10) : (UInt8.ofNat (48 + i)).toNat = 48 + i := by simp; omega
theorem dec_dig (u : Nat) : ∀ x ∈ Lib.decDigits u, 48 ≤ x.toNat ∧ x.toNat ≤ 57 := by
  induction u using Nat.strongRecOn with
  | _ u ih =>
    rw [Lib.decDigits]
    split
    · rename_i h
      intro x hx
      rw [List.mem_singleton.1 hx, dg_of h]
      omega
    · rename_i h
      intro x hx
      rcases List.mem_append.1 hx with h1 | h1
      · exact ih (u / 10) (by omega) x h1
      · rw [List.mem_singleton.1 h1, dg_of (by omega)]
        omega
def dv (l : List UInt8) : Nat := l.foldl (fun v x => v * 10 + (x.toNat - 48)) 0
theorem dv_dec (u : Nat) : dv (Lib.decDigits u) = u := by
  induction u using Nat.strongRecOn with
  | _ u ih =>
    rw [Lib.decDigits]
    split
    · rename_i h
      unfold dv
      rw [List.foldl_cons, List.foldl_nil, dg_of h]
      omega
    · rename_i h
      have h1 := ih (u / 10) (by omega)
      unfold dv at h1 ⊢
      rw [List.foldl_append, h1, List.foldl_cons, List.foldl_nil, dg_of (by omega)]
      omega
theorem itoa_pos {a : Int} (h : 0 ≤ a) : Lib.itoa a = Lib.decDigits a.toNat := by unfold Lib.itoa; rw [if_neg (by omega)]
theorem itoa_dig {a : Int} (h : 0 ≤ a) : ∀ x ∈ Lib.itoa a, 48 ≤ x.toNat ∧ x.toNat ≤ 57 := by rw [itoa_pos h]; exact dec_dig _
theorem itoa_inj {a b : Int} (ha : 0 ≤ a) (hb : 0 ≤ b) (h : Lib.itoa a = Lib.itoa b) : a = b := by
  rw [itoa_pos ha, itoa_pos hb] at h
  have h1 := dv_dec a.toNat
  rw [h, dv_dec] at h1
  omega
theorem nmL_eq (k : UInt8) (a b c : Int) : nmL [k] a b c = k :: 45 :: (Lib.itoa a ++ 45 :: (Lib.itoa b ++ 45 :: Lib.itoa c)) := by
  unfold nmL
  rw [Lib.join_cons]
  simp [Lib.joinTail]
theorem cut45 {x y r s : List UInt8} (hx : ∀ z ∈ x, z ≠ 45) (hy : ∀ z ∈ y, z ≠ 45) (h : x ++ 45 :: r = y ++ 45 :: s) : x = y ∧ r = s := by
  induction x generalizing y with
  | nil =>
    cases y with
    | nil => simp at h; exact ⟨rfl, h⟩
    | cons b y =>
      simp at h
      exact absurd h.1.symm (hy b (by simp))
  | cons a x ih =>
    cases y with
    | nil =>
      simp at h
      exact absurd h.1 (hx a (by simp))
    | cons b y =>
      simp only [List.cons_append, List.cons.injEq] at h
      obtain ⟨h1, h2⟩ := ih (fun z hz => hx z (by simp [hz])) (fun z hz => hy z (by simp [hz])) h.2
      exact ⟨by rw [h.1, h1], h2⟩
theorem itoa_45 {a : Int} (h : 0 ≤ a) : ∀ z ∈ Lib.itoa a, z ≠ 45 := fun z hz e => by
  have h1 := itoa_dig h z hz
  rw [e] at h1
  simp at h1
theorem nmS_data (k : UInt8) (a b c : Int) : (nmS k a b c).data.toList = nmL [k] a b c := by simp [nmS]
theorem nmS_head {k k' : UInt8} {a b c a' b' c' : Int} (h : nmS k a b c = nmS k' a' b' c') : k = k' := by
  have h1 : (nmS k a b c).data.toList = (nmS k' a' b' c').data.toList := by rw [h]
  rw [nmS_data, nmS_data, nmL_eq, nmL_eq] at h1
  simp at h1
  exact h1.1
theorem ts_ne (a b c a' b' c' : Int) : nmS 98 a b c ≠ nmS 116 a' b' c' := fun h => by
  have := nmS_head h
  simp at this
/- a good id -/
def gdI (a b c : Int) : Prop := nodeOk a = true ∧ timeOk b = true ∧ timeOk c = true
instance (a b c : Int) : Decidable (gdI a b c) := by unfold gdI; infer_instance
theorem gdI_b {a b c : Int} (h : gdI a b c) : 0 ≤ a ∧ a < 16 ∧ 0 ≤ b ∧ b ≤ 1099511627776 ∧ 0 ≤ c ∧ c ≤ 1099511627776 := by
  have h1 := of_decide_eq_true h.1
  have h2 := of_decide_eq_true h.2.1
  have h3 := of_decide_eq_true h.2.2
  omega
theorem nmS_inj {k : UInt8} {a b c a' b' c' : Int} (h0 : gdI a b c) (h1 : gdI a' b' c') (h : nmS k a b c = nmS k a' b' c') : a = a' ∧ b = b' ∧ c = c' := by
  have g0 := gdI_b h0
  have g1 := gdI_b h1
  have e1 : (nmS k a b c).data.toList = (nmS k a' b' c').data.toList := by rw [h]
  rw [nmS_data, nmS_data, nmL_eq, nmL_eq] at e1
  simp only [List.cons.injEq, true_and] at e1
  obtain ⟨e2, e3⟩ := cut45 (itoa_45 g0.1) (itoa_45 g1.1) e1
  obtain ⟨e4, e5⟩ := cut45 (itoa_45 (by omega)) (itoa_45 (by omega)) e3
  exact ⟨itoa_inj g0.1 g1.1 e2, itoa_inj (by omega) (by omega) e4, itoa_inj (by omega) (by omega) e5⟩
theorem gdI_64 {a b c : Int} (h : gdI a b c) : I64 a ∧ I64 b ∧ I64 c := by
  have g := gdI_b h
  unfold I64
  omega
theorem nmS_size (k : UInt8) (a b c : Int) : (nmS k a b c).size = (nmL [k] a b c).length := by simp [nmS, ByteArray.size]
theorem nmS_nm {k : UInt8} (hk : 33 ≤ k.toNat ∧ k.toNat ≤ 126) {a b c : Int} (h : gdI a b c) : nm (nmS k a b c) = true := by
  have g := gdI_b h
  have l1 : (Lib.itoa a).length ≤ 2 := by rw [itoa_pos g.1]; exact dec_len _ 2 (by omega) (by omega)
  have l2 : (Lib.itoa b).length ≤ 13 := by rw [itoa_pos (by omega)]; exact dec_len _ 13 (by omega) (by omega)
  have l3 : (Lib.itoa c).length ≤ 13 := by rw [itoa_pos (by omega)]; exact dec_len _ 13 (by omega) (by omega)
  have sz := nmS_size k a b c
  rw [nmL_len] at sz
  refine decide_eq_true ⟨by omega, by omega, fun i hi => ?_⟩
  have hm : ∀ x ∈ nmL [k] a b c, 33 ≤ x.toNat ∧ x.toNat ≤ 126 := by
    rw [nmL_eq]
    intro x hx
    simp only [List.mem_cons, List.mem_append] at hx
    rcases hx with rfl | rfl | hx | rfl | hx | rfl | hx
    · exact hk
    · simp
    · have := itoa_dig g.1 x hx; omega
    · simp
    · have := itoa_dig (a := b) (by omega) x hx; omega
    · simp
    · have := itoa_dig (a := c) (by omega) x hx; omega
  unfold gb sb
  rw [nmS_data]
  have hi2 : i < (nmL [k] a b c).length := by rw [← nmS_size]; exact hi
  rw [List.getD_eq_getElem?_getD, List.getElem?_eq_getElem hi2]
  exact hm _ (List.getElem_mem hi2)
theorem b_nm {a b c : Int} (h : gdI a b c) : nm (nmS 98 a b c) = true := nmS_nm (by simp) h
theorem t_nm {a b c : Int} (h : gdI a b c) : nm (nmS 116 a b c) = true := nmS_nm (by simp) h
end Go.Proofs.YtkdgakcmhnadfaaGreatDoor
