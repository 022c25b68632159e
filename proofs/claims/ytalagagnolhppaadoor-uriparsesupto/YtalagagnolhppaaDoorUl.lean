/- The chapter's examples; UriPlain. -/
import Derived.Test.YtalagagnolhppaaDoorUj
import Derived.Test.YtalagagnolhppaaDoorUk
namespace Go.Proofs.YtalagagnolhppaaDoor
open Go.ChangeShapes Go.WideShapes Go.ChangeAt Go.RowKit
set_option maxRecDepth 20000
set_option linter.unusedVariables false
set_option linter.unusedSimpArgs false
def exT : ByteArray := ⟨#[47, 97, 37, 50, 48, 98, 63, 120, 61, 49, 38, 121]⟩
def exP : ByteArray := ⟨#[47, 97, 32, 98]⟩
def exE : ByteArray := ⟨#[97, 47, 98, 32, 99]⟩
def exF : ByteArray := ⟨#[97, 37, 50, 70, 98, 37, 50, 48, 99]⟩
theorem ex_parse : ∃ fs, prsU exT = some (exP, fs) ∧ fs.length = 2 := ⟨[(⟨#[120]⟩, ⟨#[49]⟩), (⟨#[121]⟩, ⟨#[]⟩)], by decide +kernel, rfl⟩
theorem ex_enc : encS false exE = exF := by decide +kernel
set_option maxHeartbeats 2000000 in
theorem alive_n {w : World} {M : Nat → Prop} {E : Nat → Addr} (hE : Hid (Sent w M E)) (M0 : M 0) : Calls Tryd.prog 8 #[] w fun e w' => e = .returned (.bool true) ∧ Hid (Below w.heap.size w w') := by
  obtain ⟨fs, h1, h2⟩ := ex_parse
  have PU : Hid (Calls Tryd.prog 9 #[.string ⟨#[47, 97, 37, 50, 48, 98, 63, 120, 61, 49, 38, 121]⟩] w fun e w' => UEnd w w' E (some (exP, fs)) e ∧ Hid (Below w.heap.size w w')) := by
    have := parseU_n exT (by decide) hE M0
    rw [h1] at this
    exact this
  have FL : Hid (fs.length = 2) := h2
  clear h1 h2
  have EN : Hid (∀ w, Calls Tryd.prog 16 #[.string ⟨#[97, 47, 98, 32, 99]⟩, .bool false] w fun e w' => e = .returned (.string exF) ∧ Hid (Below w.heap.size w w')) := fun w => by
    have := encode_n exE false (by decide) w
    rw [ex_enc] at this
    exact this
  obtain ⟨p, HP⟩ : ∃ q, Hid (exP = q) := ⟨_, rfl⟩
  obtain ⟨f, HF⟩ : ∃ q, Hid (exF = q) := ⟨_, rfl⟩
  rw [HP.out] at PU
  rw [HF.out] at EN
  have q0 : (p.toList == [47, 97, 32, 98]) = true := by rw [← HP.out]; exact beq_lit (decide_eq_true rfl) rfl
  have q1 : (f.toList == [97, 37, 50, 70, 98, 37, 50, 48, 99]) = true := by rw [← HF.out]; exact beq_lit (decide_eq_true rfl) rfl
  go_enter Tryd.func8, Tryd.ntmps8
  go_upto_region 2 with (go_at_call 9; refine PU.out.mono ?_; rintro e w1 ⟨⟨a, n, c, he, hR⟩, B1⟩; obtain rfl := he)
  have hn : n = 2 := by have := hR.len; rw [this]; exact FL.out
  subst hn
  obtain ⟨w2, H2⟩ : ∃ q, Hid (w1.alloc (.cells #[.string p, .slice a 2 c] 25) = q) := ⟨_, rfl⟩
  obtain ⟨g, HG⟩ : ∃ q, Hid (w1.heap.size = q) := ⟨_, rfl⟩
  rw [H2.out, HG.out]
  have X2 : Hid (Bx w w2 g 25 #[.string p, .slice a 2 c]) := by rw [← H2.out, ← HG.out]; exact Bx.new w w1 25 _ B1.out
  have c0 : w2.cell? ⟨g, 0, none⟩ = some (.string p) := by simp [World.cell?, X2.out.row]
  have c1 : w2.cell? ⟨g, 1, none⟩ = some (.slice a 2 c) := by simp [World.cell?, X2.out.row]
  clear H2 hR
  go_wp2_with (go_at_call 16; refine (EN.out _).mono ?_; rintro e w3 ⟨rfl, B3⟩)
  go_ret
  exact ⟨rfl, X2.out.bel.trans (B3.out.mono X2.out.bel.size)⟩
/- the bytes that Encode writes -/
def okB (sl : Bool) (c : Nat) : Prop := (97 ≤ c ∧ c ≤ 122) ∨ (65 ≤ c ∧ c ≤ 90) ∨ (48 ≤ c ∧ c ≤ 57) ∨ c = 45 ∨ c = 95 ∨ c = 46 ∨ c = 126 ∨ c = 37 ∨ (c = 47 ∧ sl = true)
theorem pl_ok {sl : Bool} {c : Nat} (h : asB sl c = true) : okB sl c := by
  unfold asB plB smB grB dgB at h
  simp only [Bool.or_eq_true, Bool.and_eq_true, decide_eq_true_eq] at h
  unfold okB
  rcases h with (h | h | h | h) | ⟨h1, h2⟩
  · exact .inl h
  · exact .inr (.inl h)
  · exact .inr (.inr (.inl h))
  · rcases h with h | h | h | h <;> simp [h]
  · simp [h1, h2]
theorem hd_ok {sl : Bool} {k : Nat} (h : k < 16) : okB sl (hd k) := by
  unfold hd okB
  split <;> omega
theorem ec_ok {sl : Bool} {c : Nat} (hc : c < 256) : ∀ x ∈ ec sl c, okB sl x := fun x hx => by
  unfold ec at hx
  split at hx
  · rename_i h
    rw [List.mem_singleton] at hx
    rw [hx]; exact pl_ok h
  · simp only [List.mem_cons, List.not_mem_nil, or_false] at hx
    rcases hx with rfl | rfl | rfl
    · unfold okB; omega
    · exact hd_ok (by omega)
    · exact hd_ok (by omega)
theorem enc_ok {sl : Bool} : ∀ {l : List Nat}, (∀ x ∈ l, x < 256) → ∀ x ∈ enc sl l, okB sl x
  | [], _, x, hx => by cases hx
  | c :: r, h, x, hx => by
    rw [enc] at hx
    rcases List.mem_append.1 hx with hx | hx
    · exact ec_ok (h c (by simp)) x hx
    · exact enc_ok (fun y hy => h y (by simp [hy])) x hx
theorem encS_at {sl : Bool} {s : ByteArray} {i : Nat} (h : i < (encS sl s).size) : okB sl (sb (encS sl s) i) := by
  have h2 : i < (bl (encS sl s)).length := by rw [bl_len]; exact h
  rw [← bl_at h2]
  have e : ∀ x ∈ bl (encS sl s), okB sl x := fun x hx => enc_ok (bl_lt s) x (by rw [← bl_encS]; exact hx)
  exact e _ (List.getElem_mem h2)
theorem encS_size (sl : Bool) (s : ByteArray) : (encS sl s).size ≤ 3 * s.size := by rw [← bl_len, bl_encS, ← bl_len]; exact enc_len _ _
theorem dcS_encS (sl : Bool) (s : ByteArray) : dcS (encS sl s) = none ∨ dcS (encS sl s) = some s := by
  unfold dcS
  rw [bl_encS, dc_enc sl (bl_lt s)]
  split
  · exact .inr (by show some (spell (bl s)) = _; rw [spell_bl])
  · exact .inl rfl
set_option maxHeartbeats 8000000 in
theorem plain_law (s : ByteArray) (sl : Bool) (hs : s.size ≤ 1048576) {w : World} {M : Nat → Prop} {E : Nat → Addr} (hE : Hid (Sent w M E)) (M0 : M 0) : Calls Tryd.prog 7 #[.string s, .bool sl] w fun e w' => e = .returned (.bool true) ∧ Hid (Below w.heap.size w w') := by
  have EN : Hid (∀ w, Calls Tryd.prog 16 #[.string s, .bool sl] w fun e w' => e = .returned (.string (encS sl s)) ∧ Hid (Below w.heap.size w w')) := fun w => encode_n s sl (by omega) w
  have ez := encS_size sl s
  have OK : Hid (∀ i, i < (encS sl s).size → okB sl (sb (encS sl s) i)) := fun i h => encS_at h
  have DC := dcS_encS sl s
  obtain ⟨t, HT⟩ : ∃ q, Hid (encS sl s = q) := ⟨_, rfl⟩
  rw [HT.out] at EN ez OK DC
  have DC : Hid (dcS t = none ∨ dcS t = some s) := DC
  go_enter Tryd.func7, Tryd.ntmps7
  go_wp2_with (first
    | (go_at_call 8; refine (alive_n hE M0).mono ?_; rintro e w1 ⟨rfl, B1⟩)
    | (go_at_call 16; refine (EN.out _).mono ?_; rintro e w2 ⟨rfl, B2⟩))
  have BB : Hid (Below w.heap.size w w2) := B1.out.trans (B2.out.mono B1.out.size)
  clear EN
  go_loopw [6] (fun ti wr => ∃ i : Nat, i ≤ t.size ∧ ti = .int .i64 (i : Int) ∧ wr = w2) (fun ti _ => t.size - (intOf ti).toNat)
  case atStart => exact ⟨0, by omega, rfl, rfl⟩
  case round =>
    obtain ⟨i, hi, rfl, rfl⟩ := hrel
    by_cases hlt : i < t.size
    · have i1 : (i : Int) < (t.size : Int) := by omega
      have X0 := fun W => sb_ix t i (i : Int) rfl hlt W
      have OB : Hid (okB sl (sb t i)) := OK.out i hlt
      obtain ⟨b, Hb⟩ : ∃ q, Hid (sb t i = q) := ⟨_, rfl⟩
      rw [Hb.out] at X0 OB
      rcases OB.out with ⟨h1, h2⟩ | ⟨h1, h2⟩ | ⟨h1, h2⟩ | h1 | h1 | h1 | h1 | h1 | ⟨h1, h2⟩
      · have t1 : (97 : Int) ≤ (b : Int) := by omega
        have t2 : (b : Int) ≤ 122 := by omega
        clear OB OK DC
        go_wp2
        go_roundw
        case rel => exact ⟨i + 1, by omega, by go_num, by trivial⟩
        case measure => simp [intOf]; omega
      · have t0 : ¬ ((97 : Int) ≤ (b : Int)) := by omega
        have t1 : (65 : Int) ≤ (b : Int) := by omega
        have t2 : (b : Int) ≤ 90 := by omega
        clear OB OK DC
        go_wp2
        go_roundw
        case rel => exact ⟨i + 1, by omega, by go_num, by trivial⟩
        case measure => simp [intOf]; omega
      · have t0 : ¬ ((97 : Int) ≤ (b : Int)) := by omega
        have t3 : ¬ ((65 : Int) ≤ (b : Int)) := by omega
        have t1 : (48 : Int) ≤ (b : Int) := by omega
        have t2 : (b : Int) ≤ 57 := by omega
        clear OB OK DC
        go_wp2
        go_roundw
        case rel => exact ⟨i + 1, by omega, by go_num, by trivial⟩
        case measure => simp [intOf]; omega
      · subst h1
        clear OB OK DC
        go_wp2
        go_roundw
        case rel => exact ⟨i + 1, by omega, by go_num, by trivial⟩
        case measure => simp [intOf]; omega
      · subst h1
        clear OB OK DC
        go_wp2
        go_roundw
        case rel => exact ⟨i + 1, by omega, by go_num, by trivial⟩
        case measure => simp [intOf]; omega
      · subst h1
        clear OB OK DC
        go_wp2
        go_roundw
        case rel => exact ⟨i + 1, by omega, by go_num, by trivial⟩
        case measure => simp [intOf]; omega
      · subst h1
        clear OB OK DC
        go_wp2
        go_roundw
        case rel => exact ⟨i + 1, by omega, by go_num, by trivial⟩
        case measure => simp [intOf]; omega
      · subst h1
        clear OB OK DC
        go_wp2
        go_roundw
        case rel => exact ⟨i + 1, by omega, by go_num, by trivial⟩
        case measure => simp [intOf]; omega
      · subst h1
        subst h2
        clear OB OK DC
        go_wp2
        go_roundw
        case rel => exact ⟨i + 1, by omega, by go_num, by trivial⟩
        case measure => simp [intOf]; omega
    · have i1 : ¬ ((i : Int) < (t.size : Int)) := by omega
      rcases DC.out with h1 | h1
      · have DD : Hid (Calls Tryd.prog 19 #[.string t] wr fun e w' => e = .returned (.tuple #[.string ⟨#[]⟩, .bool false]) ∧ Hid (Below wr.heap.size wr w')) := by
          have := refdecode_n t (by omega) wr
          rw [h1] at this
          exact this
        clear h1
        go_wp2_with (go_at_call 19; refine DD.out.mono ?_; rintro e w3 ⟨rfl, B3⟩)
        go_ret
        exact ⟨rfl, BB.out.trans (B3.out.mono BB.out.size)⟩
      · have DD : Hid (Calls Tryd.prog 19 #[.string t] wr fun e w' => e = .returned (.tuple #[.string s, .bool true]) ∧ Hid (Below wr.heap.size wr w')) := by
          have := refdecode_n t (by omega) wr
          rw [h1] at this
          exact this
        clear h1
        have ss : (s.toList == s.toList) = true := beq_self_eq_true _
        go_wp2_with (go_at_call 19; refine DD.out.mono ?_; rintro e w3 ⟨rfl, B3⟩)
        go_ret
        exact ⟨rfl, BB.out.trans (B3.out.mono BB.out.size)⟩
end Go.Proofs.YtalagagnolhppaaDoor
